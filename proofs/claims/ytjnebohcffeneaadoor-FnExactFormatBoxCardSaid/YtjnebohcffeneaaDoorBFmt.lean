/- Contracts of FormatBox: the program and its model. -/
import Derived.Test.YtjnebohcffeneaaDoorProg
import Derived.Test.YtjnebohcffeneaaDoorMem
import Derived.Test.YtjnebohcffeneaaDoorStrS
import Derived.Test.YtjnebohcffeneaaDoorNumP
import Derived.Test.YtjnebohcffeneaaDoorFmt
import Derived.Test.YtjnebohcffeneaaDoorBuilder
import Derived.Test.YtjnebohcffeneaaDoorInts
import Derived.Test.YtjnebohcffeneaaDoorIntS
import Derived.Test.YtjnebohcffeneaaDoorFmts
import Derived.Test.YtjnebohcffeneaaDoorVbox
import Derived.Test.YtjnebohcffeneaaDoorVec
import Derived.Test.YtjnebohcffeneaaDoorVlaw
import Derived.Test.YtjnebohcffeneaaDoorVFmt
import Derived.Test.YtjnebohcffeneaaDoorHeld
import Derived.Test.YtjnebohcffeneaaDoorBox
import Derived.Test.YtjnebohcffeneaaDoorBValid
import Derived.WalkKit
import Derived.WalkSpells
import Derived.WalkLawsBesides
import Derived.Lib.Hide
import Derived.Deep.RegionHeld3
import Derived.Deep.QuietTactic
import Derived.BigQuiet
import Derived.Handy
import Derived.Deep.DeepCutAuto
namespace Go.Proofs.YtjnebohcffeneaaDoor
open Go.RowKit

def dots : ByteArray := ⟨#[46, 46]⟩
/-- a box's text -/
def fmtX (a b c d e f : Int) : ByteArray := if okX a b c d e f = true then (fmtV a b c ++ dots) ++ fmtV d e f else ⟨#[]⟩
theorem fmtsX_size (l : List Int) (hl : l.length ≤ 1000) : (fmtsP l).size ≤ 1048576 := by
  unfold fmtsP
  split
  · decide
  · split
    · unfold joinP
      rw [strOf_size]
      have h1 := joinN_len comma (l.map fmtP) (l.map fmtP).length
      have h2 := sizeN_fmt l (l.map fmtP).length
      have h3 : comma.size = 1 := rfl
      rw [h3] at h1
      simp only [List.length_map] at h1 h2 ⊢
      omega
    · decide
theorem fmtV_le (x y z : Int) : (fmtV x y z).size ≤ 1048576 := by
  unfold fmtV
  split
  · exact fmtsX_size _ (by simp)
  · decide
theorem ret_str2 {a b : ByteArray} (h : a = b) : Ending.returned (.string a) = .returned (.string b) := by rw [h]

set_option maxHeartbeats 2000000 in
theorem formatBox_any (a b c d e f : Int) (w : World) (hp : Pow w) :
    Calls Tryd.prog 6 #[box a b c d e f] w (fun x w' => x = .returned (.string (fmtX a b c d e f)) ∧ Below w.heap.size w w') := by
  have HP := Lib.hid hp
  clear hp
  have HT : Held w (w.alloc (.cells #[.int .i64 a, .int .i64 b, .int .i64 c, .int .i64 d, .int .i64 e, .int .i64 f] 29)) [(w.heap.size, [.int .i64 a, .int .i64 b, .int .i64 c, .int .i64 d, .int .i64 e, .int .i64 f])] := by
    have h := (Held.nil w).new #[.int .i64 a, .int .i64 b, .int .i64 c, .int .i64 d, .int .i64 e, .int .i64 f] 29
    simpa only [World.size_alloc] using h
  have HC : ∀ W, Held w W [(w.heap.size, [.int .i64 a, .int .i64 b, .int .i64 c, .int .i64 d, .int .i64 e, .int .i64 f])] → (W.cell? ⟨w.heap.size, 0, none⟩ = some (.int .i64 a) ∧ W.cell? ⟨w.heap.size, 1, none⟩ = some (.int .i64 b) ∧ W.cell? ⟨w.heap.size, 2, none⟩ = some (.int .i64 c) ∧ W.cell? ⟨w.heap.size, 3, none⟩ = some (.int .i64 d) ∧ W.cell? ⟨w.heap.size, 4, none⟩ = some (.int .i64 e) ∧ W.cell? ⟨w.heap.size, 5, none⟩ = some (.int .i64 f)) := fun W h => ⟨(h.box 0).c 0, (h.box 0).c 1, (h.box 0).c 2, (h.box 0).c 3, (h.box 0).c 4, (h.box 0).c 5⟩
  obtain ⟨F1, hf1⟩ : ∃ F1, F1 = fmtV a b c := ⟨_, rfl⟩
  obtain ⟨F2, hf2⟩ : ∃ F2, F2 = fmtV d e f := ⟨_, rfl⟩
  have hs1 : F1.size ≤ 1048576 := by rw [hf1]; exact fmtV_le _ _ _
  have hs2 : F2.size ≤ 1048576 := by rw [hf2]; exact fmtV_le _ _ _
  have hq1 : ¬ 9223372036854775807 < F1.size + 2 := by omega
  have hq2 : ¬ 9223372036854775807 < F1.size + 2 + F2.size := by omega
  have hr1 : ∀ W : World, (Op.stringOp .add F1 ⟨#[46, 46]⟩).run Tryd.prog W = .ok (.string (F1 ++ ⟨#[46, 46]⟩)) W := fun W => run_string_add_sum W _ _ (by show F1.size + 2 ≤ _; omega)
  have hr2 : ∀ W : World, (Op.stringOp .add (F1 ++ ⟨#[46, 46]⟩) F2).run Tryd.prog W = .ok (.string ((F1 ++ ⟨#[46, 46]⟩) ++ F2)) W := fun W => run_string_add_sum W _ _ (by rw [ByteArray.size_append]; show F1.size + 2 + F2.size ≤ _; omega)
  have HF1 := Lib.hid hf1
  have HF2 := Lib.hid hf2
  clear hf1 hf2
  rcases h0 : okX a b c d e f with _ | _
  · go_enter Tryd.func6, Tryd.ntmps6
    go_wp2_with fail
    refine (isValidBox_any _ _ _ _ _ _ _).mono ?_
    rintro e w1 ⟨rfl, hb1⟩
    rw [h0]
    have HT := HT.later hb1
    clear hb1
    go_wp2_with fail
    go_ret
    exact ⟨ret_str2 (by unfold fmtX; rw [h0]; rfl), HT.below⟩
  · go_enter Tryd.func6, Tryd.ntmps6
    go_wp2_with fail
    refine (isValidBox_any _ _ _ _ _ _ _).mono ?_
    rintro e w1 ⟨rfl, hb1⟩
    rw [h0]
    have HT := HT.later hb1
    clear hb1
    go_wp2_with fail
    go_region_held3 (fun w' => w'.cell? ⟨w.heap.size, 0, none⟩ = some (.int .i64 a) ∧ w'.cell? ⟨w.heap.size, 1, none⟩ = some (.int .i64 b) ∧ w'.cell? ⟨w.heap.size, 2, none⟩ = some (.int .i64 c) ∧ w'.cell? ⟨w.heap.size, 3, none⟩ = some (.int .i64 d) ∧ w'.cell? ⟨w.heap.size, 4, none⟩ = some (.int .i64 e) ∧ w'.cell? ⟨w.heap.size, 5, none⟩ = some (.int .i64 f))
      (first | (with_reducible exact HC _ HT) | (with_reducible exact HC _ HT.drew))
      (first | (go_at_call 11; (first | refine (formatVec_any _ _ _ _ (HP.out.later HT.below)).mono ?_ | refine (formatVec_any _ _ _ _ (HP.out.later HT.drew.below)).mono ?_); rintro e w1 ⟨rfl, hb1⟩; (first | (have HT := HT.later hb1) | (have HT := HT.drew.later hb1)); (first | rw [← HF1.out] | rw [← HF2.out])))
    go_wp2
    go_ret
    exact ⟨ret_str2 (by unfold fmtX; rw [h0, HF1.out, HF2.out]; rfl), HT.below⟩

set_option maxHeartbeats 2000000 in
theorem sFormatBox_any (a b c d e f : Int) (w : World) :
    Calls Tryd.prog 4 #[box a b c d e f] w (fun x w' => x = .returned (.string (fmtX a b c d e f)) ∧ Below w.heap.size w w') := by
  have HT : Held w (w.alloc (.cells #[.int .i64 a, .int .i64 b, .int .i64 c, .int .i64 d, .int .i64 e, .int .i64 f] 29)) [(w.heap.size, [.int .i64 a, .int .i64 b, .int .i64 c, .int .i64 d, .int .i64 e, .int .i64 f])] := by
    have h := (Held.nil w).new #[.int .i64 a, .int .i64 b, .int .i64 c, .int .i64 d, .int .i64 e, .int .i64 f] 29
    simpa only [World.size_alloc] using h
  have HC : ∀ W, Held w W [(w.heap.size, [.int .i64 a, .int .i64 b, .int .i64 c, .int .i64 d, .int .i64 e, .int .i64 f])] → (W.cell? ⟨w.heap.size, 0, none⟩ = some (.int .i64 a) ∧ W.cell? ⟨w.heap.size, 1, none⟩ = some (.int .i64 b) ∧ W.cell? ⟨w.heap.size, 2, none⟩ = some (.int .i64 c) ∧ W.cell? ⟨w.heap.size, 3, none⟩ = some (.int .i64 d) ∧ W.cell? ⟨w.heap.size, 4, none⟩ = some (.int .i64 e) ∧ W.cell? ⟨w.heap.size, 5, none⟩ = some (.int .i64 f)) := fun W h => ⟨(h.box 0).c 0, (h.box 0).c 1, (h.box 0).c 2, (h.box 0).c 3, (h.box 0).c 4, (h.box 0).c 5⟩
  obtain ⟨F1, hf1⟩ : ∃ F1, F1 = fmtV a b c := ⟨_, rfl⟩
  obtain ⟨F2, hf2⟩ : ∃ F2, F2 = fmtV d e f := ⟨_, rfl⟩
  have hs1 : F1.size ≤ 1048576 := by rw [hf1]; exact fmtV_le _ _ _
  have hs2 : F2.size ≤ 1048576 := by rw [hf2]; exact fmtV_le _ _ _
  have hq1 : ¬ 9223372036854775807 < F1.size + 2 := by omega
  have hq2 : ¬ 9223372036854775807 < F1.size + 2 + F2.size := by omega
  have hr1 : ∀ W : World, (Op.stringOp .add F1 ⟨#[46, 46]⟩).run Tryd.prog W = .ok (.string (F1 ++ ⟨#[46, 46]⟩)) W := fun W => run_string_add_sum W _ _ (by show F1.size + 2 ≤ _; omega)
  have hr2 : ∀ W : World, (Op.stringOp .add (F1 ++ ⟨#[46, 46]⟩) F2).run Tryd.prog W = .ok (.string ((F1 ++ ⟨#[46, 46]⟩) ++ F2)) W := fun W => run_string_add_sum W _ _ (by rw [ByteArray.size_append]; show F1.size + 2 + F2.size ≤ _; omega)
  have HF1 := Lib.hid hf1
  have HF2 := Lib.hid hf2
  clear hf1 hf2
  rcases h0 : okX a b c d e f with _ | _
  · go_enter Tryd.func4, Tryd.ntmps4
    go_wp2_with fail
    refine (sIsValidBox_any _ _ _ _ _ _ _).mono ?_
    rintro e w1 ⟨rfl, hb1⟩
    rw [h0]
    have HT := HT.later hb1
    clear hb1
    go_wp2_with fail
    go_ret
    exact ⟨ret_str2 (by unfold fmtX; rw [h0]; rfl), HT.below⟩
  · go_enter Tryd.func4, Tryd.ntmps4
    go_wp2_with fail
    refine (sIsValidBox_any _ _ _ _ _ _ _).mono ?_
    rintro e w1 ⟨rfl, hb1⟩
    rw [h0]
    have HT := HT.later hb1
    clear hb1
    go_wp2_with fail
    go_region_held3 (fun w' => w'.cell? ⟨w.heap.size, 0, none⟩ = some (.int .i64 a) ∧ w'.cell? ⟨w.heap.size, 1, none⟩ = some (.int .i64 b) ∧ w'.cell? ⟨w.heap.size, 2, none⟩ = some (.int .i64 c) ∧ w'.cell? ⟨w.heap.size, 3, none⟩ = some (.int .i64 d) ∧ w'.cell? ⟨w.heap.size, 4, none⟩ = some (.int .i64 e) ∧ w'.cell? ⟨w.heap.size, 5, none⟩ = some (.int .i64 f))
      (first | (with_reducible exact HC _ HT) | (with_reducible exact HC _ HT.drew))
      (first | (go_at_call 8; refine (sFormatVec_any _ _ _ _).mono ?_; rintro e w1 ⟨rfl, hb1⟩; (first | (have HT := HT.later hb1) | (have HT := HT.drew.later hb1)); (first | rw [← HF1.out] | rw [← HF2.out])))
    go_wp2
    go_ret
    exact ⟨ret_str2 (by unfold fmtX; rw [h0, HF1.out, HF2.out]; rfl), HT.below⟩
end Go.Proofs.YtjnebohcffeneaaDoor
