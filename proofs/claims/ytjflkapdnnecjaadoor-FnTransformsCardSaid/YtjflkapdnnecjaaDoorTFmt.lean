/- Contracts of FormatTransform: the program and its model. -/
import Derived.Test.YtjflkapdnnecjaaDoorProg
import Derived.Test.YtjflkapdnnecjaaDoorMem
import Derived.Test.YtjflkapdnnecjaaDoorStrS
import Derived.Test.YtjflkapdnnecjaaDoorNumP
import Derived.Test.YtjflkapdnnecjaaDoorFmt
import Derived.Test.YtjflkapdnnecjaaDoorBuilder
import Derived.Test.YtjflkapdnnecjaaDoorInts
import Derived.Test.YtjflkapdnnecjaaDoorIntS
import Derived.Test.YtjflkapdnnecjaaDoorFmts
import Derived.Test.YtjflkapdnnecjaaDoorVbox
import Derived.Test.YtjflkapdnnecjaaDoorVec
import Derived.Test.YtjflkapdnnecjaaDoorVlaw
import Derived.Test.YtjflkapdnnecjaaDoorVFmt
import Derived.Test.YtjflkapdnnecjaaDoorHeld
import Derived.Test.YtjflkapdnnecjaaDoorArr
import Derived.Test.YtjflkapdnnecjaaDoorTr
import Derived.Test.YtjflkapdnnecjaaDoorTMat
import Derived.WalkKit
import Derived.WalkSpells
import Derived.WalkLawsBesides
import Derived.Lib.Hide
import Derived.Deep.RegionHeld3
import Derived.Deep.QuietTactic
import Derived.BigQuiet
import Derived.Handy
import Derived.Deep.DeepCutAuto
namespace Go.Proofs.YtjflkapdnnecjaaDoor
open Go.RowKit

def semi : ByteArray := ⟨#[59]⟩
/-- a transform's text -/
def fmtT (a0 a1 a2 a3 a4 a5 a6 a7 a8 x y z : Int) : ByteArray := if okT [a0, a1, a2, a3, a4, a5, a6, a7, a8] x y z = true then (fmtsP [a0, a1, a2, a3, a4, a5, a6, a7, a8] ++ semi) ++ fmtV x y z else ⟨#[]⟩
theorem fmtsT_size (l : List Int) (hl : l.length ≤ 1000) : (fmtsP l).size ≤ 1048576 := by
  unfold fmtsP
  split
  · decide
  · split
    · unfold joinP
      rw [strOf_size]
      have h1 := joinN_len comma (l.map fmtP) (l.map fmtP).length
      have h2 := sizeN_fmt l (l.map fmtP).length
      have h3 : comma.size = 1 := rfl
      rw [h3] at h1
      simp only [List.length_map] at h1 h2 ⊢
      omega
    · decide
theorem fmtVT_le (x y z : Int) : (fmtV x y z).size ≤ 1048576 := by
  unfold fmtV
  split
  · exact fmtsT_size _ (by simp)
  · decide
theorem ret_str3 {a b : ByteArray} (h : a = b) : Ending.returned (.string a) = .returned (.string b) := by rw [h]
/-- nine of a block's twelve cells, as a list of integers -/
theorem row9 {w : World} {k : Nat} {a0 a1 a2 a3 a4 a5 a6 a7 a8 x y z : Int} (h : Mbox w k [.int .i64 a0, .int .i64 a1, .int .i64 a2, .int .i64 a3, .int .i64 a4, .int .i64 a5, .int .i64 a6, .int .i64 a7, .int .i64 a8, .int .i64 x, .int .i64 y, .int .i64 z]) : Row I64 w w.heap.size (some ⟨k, 0, none⟩) [a0, a1, a2, a3, a4, a5, a6, a7, a8] := fun _ =>
  ⟨k, 0, rfl, h.lt, fun i hi => by
    rw [Nat.zero_add]
    match i, hi with
    | 0, _ => exact h.c 0
    | 1, _ => exact h.c 1
    | 2, _ => exact h.c 2
    | 3, _ => exact h.c 3
    | 4, _ => exact h.c 4
    | 5, _ => exact h.c 5
    | 6, _ => exact h.c 6
    | 7, _ => exact h.c 7
    | 8, _ => exact h.c 8
    | i + 9, hi => exact absurd hi (by simp)⟩

set_option maxHeartbeats 4000000 in
theorem formatTransform_any (a0 a1 a2 a3 a4 a5 a6 a7 a8 x y z : Int) (w : World) (hp : Pow w) :
    Calls Tryd.prog 13 #[tr a0 a1 a2 a3 a4 a5 a6 a7 a8 x y z] w (fun e w' => e = .returned (.string (fmtT a0 a1 a2 a3 a4 a5 a6 a7 a8 x y z)) ∧ Below w.heap.size w w') := by
  have HP := Lib.hid hp
  clear hp
  have HT : Held w (w.alloc (.cells #[.int .i64 a0, .int .i64 a1, .int .i64 a2, .int .i64 a3, .int .i64 a4, .int .i64 a5, .int .i64 a6, .int .i64 a7, .int .i64 a8, .int .i64 x, .int .i64 y, .int .i64 z] 26)) [(w.heap.size, [.int .i64 a0, .int .i64 a1, .int .i64 a2, .int .i64 a3, .int .i64 a4, .int .i64 a5, .int .i64 a6, .int .i64 a7, .int .i64 a8, .int .i64 x, .int .i64 y, .int .i64 z])] := by
    have h := (Held.nil w).new #[.int .i64 a0, .int .i64 a1, .int .i64 a2, .int .i64 a3, .int .i64 a4, .int .i64 a5, .int .i64 a6, .int .i64 a7, .int .i64 a8, .int .i64 x, .int .i64 y, .int .i64 z] 26
    simpa only [World.size_alloc] using h
  have HC : ∀ W, Held w W [(w.heap.size, [.int .i64 a0, .int .i64 a1, .int .i64 a2, .int .i64 a3, .int .i64 a4, .int .i64 a5, .int .i64 a6, .int .i64 a7, .int .i64 a8, .int .i64 x, .int .i64 y, .int .i64 z])] → (W.cell? ⟨w.heap.size, 0, none⟩ = some (.int .i64 a0) ∧ W.cell? ⟨w.heap.size, 1, none⟩ = some (.int .i64 a1) ∧ W.cell? ⟨w.heap.size, 2, none⟩ = some (.int .i64 a2) ∧ W.cell? ⟨w.heap.size, 3, none⟩ = some (.int .i64 a3) ∧ W.cell? ⟨w.heap.size, 4, none⟩ = some (.int .i64 a4) ∧ W.cell? ⟨w.heap.size, 5, none⟩ = some (.int .i64 a5) ∧ W.cell? ⟨w.heap.size, 6, none⟩ = some (.int .i64 a6) ∧ W.cell? ⟨w.heap.size, 7, none⟩ = some (.int .i64 a7) ∧ W.cell? ⟨w.heap.size, 8, none⟩ = some (.int .i64 a8) ∧ W.cell? ⟨w.heap.size, 9, none⟩ = some (.int .i64 x) ∧ W.cell? ⟨w.heap.size, 10, none⟩ = some (.int .i64 y) ∧ W.cell? ⟨w.heap.size, 11, none⟩ = some (.int .i64 z)) := fun W h => ⟨(h.box 0).c 0, (h.box 0).c 1, (h.box 0).c 2, (h.box 0).c 3, (h.box 0).c 4, (h.box 0).c 5, (h.box 0).c 6, (h.box 0).c 7, (h.box 0).c 8, (h.box 0).c 9, (h.box 0).c 10, (h.box 0).c 11⟩
  obtain ⟨F1, hf1⟩ : ∃ F1, F1 = fmtsP [a0, a1, a2, a3, a4, a5, a6, a7, a8] := ⟨_, rfl⟩
  obtain ⟨F2, hf2⟩ : ∃ F2, F2 = fmtV x y z := ⟨_, rfl⟩
  have hs1 : F1.size ≤ 1048576 := by rw [hf1]; exact fmtsT_size _ (by simp)
  have hs2 : F2.size ≤ 1048576 := by rw [hf2]; exact fmtVT_le _ _ _
  have hq1 : ¬ 9223372036854775807 < F1.size + 1 := by omega
  have hq2 : ¬ 9223372036854775807 < F1.size + 1 + F2.size := by omega
  have hr1 : ∀ W : World, (Op.stringOp .add F1 ⟨#[59]⟩).run Tryd.prog W = .ok (.string (F1 ++ ⟨#[59]⟩)) W := fun W => run_string_add_sum W _ _ (by show F1.size + 1 ≤ _; omega)
  have hr2 : ∀ W : World, (Op.stringOp .add (F1 ++ ⟨#[59]⟩) F2).run Tryd.prog W = .ok (.string ((F1 ++ ⟨#[59]⟩) ++ F2)) W := fun W => run_string_add_sum W _ _ (by rw [ByteArray.size_append]; show F1.size + 1 + F2.size ≤ _; omega)
  have HF1 := Lib.hid hf1
  have HF2 := Lib.hid hf2
  clear hf1 hf2
  rcases h0 : okT [a0, a1, a2, a3, a4, a5, a6, a7, a8] x y z with _ | _
  · go_enter Tryd.func13, Tryd.ntmps13
    have c0 := (HT.box 0).c 0
    have c1 := (HT.box 0).c 1
    have c2 := (HT.box 0).c 2
    have c3 := (HT.box 0).c 3
    have c4 := (HT.box 0).c 4
    have c5 := (HT.box 0).c 5
    have c6 := (HT.box 0).c 6
    have c7 := (HT.box 0).c 7
    have c8 := (HT.box 0).c 8
    have c9 := (HT.box 0).c 9
    have c10 := (HT.box 0).c 10
    have c11 := (HT.box 0).c 11
    go_wp2_with fail
    refine (isValidTransform_any _ _ _ _ _ _ _ _ _ _ _ _ _).mono ?_
    rintro e w1 ⟨rfl, hb1⟩
    rw [h0]
    have HT := HT.later hb1
    clear hb1 c0 c1 c2 c3 c4 c5 c6 c7 c8 c9 c10 c11
    go_wp2_with fail
    go_ret
    exact ⟨ret_str3 (by unfold fmtT; rw [h0]; rfl), HT.below⟩
  · go_enter Tryd.func13, Tryd.ntmps13
    have c0 := (HT.box 0).c 0
    have c1 := (HT.box 0).c 1
    have c2 := (HT.box 0).c 2
    have c3 := (HT.box 0).c 3
    have c4 := (HT.box 0).c 4
    have c5 := (HT.box 0).c 5
    have c6 := (HT.box 0).c 6
    have c7 := (HT.box 0).c 7
    have c8 := (HT.box 0).c 8
    have c9 := (HT.box 0).c 9
    have c10 := (HT.box 0).c 10
    have c11 := (HT.box 0).c 11
    go_wp2_with fail
    refine (isValidTransform_any _ _ _ _ _ _ _ _ _ _ _ _ _).mono ?_
    rintro e w1 ⟨rfl, hb1⟩
    rw [h0]
    have HT := HT.later hb1
    clear hb1 c0 c1 c2 c3 c4 c5 c6 c7 c8 c9 c10 c11
    go_wp2_with fail
    go_region_held3 (fun w' => w'.cell? ⟨w.heap.size, 0, none⟩ = some (.int .i64 a0) ∧ w'.cell? ⟨w.heap.size, 1, none⟩ = some (.int .i64 a1) ∧ w'.cell? ⟨w.heap.size, 2, none⟩ = some (.int .i64 a2) ∧ w'.cell? ⟨w.heap.size, 3, none⟩ = some (.int .i64 a3) ∧ w'.cell? ⟨w.heap.size, 4, none⟩ = some (.int .i64 a4) ∧ w'.cell? ⟨w.heap.size, 5, none⟩ = some (.int .i64 a5) ∧ w'.cell? ⟨w.heap.size, 6, none⟩ = some (.int .i64 a6) ∧ w'.cell? ⟨w.heap.size, 7, none⟩ = some (.int .i64 a7) ∧ w'.cell? ⟨w.heap.size, 8, none⟩ = some (.int .i64 a8) ∧ w'.cell? ⟨w.heap.size, 9, none⟩ = some (.int .i64 x) ∧ w'.cell? ⟨w.heap.size, 10, none⟩ = some (.int .i64 y) ∧ w'.cell? ⟨w.heap.size, 11, none⟩ = some (.int .i64 z))
      (first | (with_reducible exact HC _ HT) | (with_reducible exact HC _ HT.drew))
      (first | (go_at_call 42; (first | refine (formats_any _ _ [a0, a1, a2, a3, a4, a5, a6, a7, a8] _ (row9 (HT.box 0)) (by simp) (HP.out.later HT.below)).mono ?_ | refine (formats_any _ _ [a0, a1, a2, a3, a4, a5, a6, a7, a8] _ (row9 (HT.drew.box 0)) (by simp) (HP.out.later HT.drew.below)).mono ?_); rintro e w1 ⟨rfl, hb1⟩; (first | (have HT := HT.later hb1) | (have HT := HT.drew.later hb1)); rw [← HF1.out]) | (go_at_call 43; (first | refine (formatVec_any _ _ _ _ (HP.out.later HT.below)).mono ?_ | refine (formatVec_any _ _ _ _ (HP.out.later HT.drew.below)).mono ?_); rintro e w1 ⟨rfl, hb1⟩; (first | (have HT := HT.later hb1) | (have HT := HT.drew.later hb1)); rw [← HF2.out]))
    go_wp2
    go_ret
    exact ⟨ret_str3 (by unfold fmtT; rw [h0, HF1.out, HF2.out]; rfl), HT.below⟩

set_option maxHeartbeats 4000000 in
theorem sFormatTransform_any (a0 a1 a2 a3 a4 a5 a6 a7 a8 x y z : Int) (w : World) :
    Calls Tryd.prog 29 #[tr a0 a1 a2 a3 a4 a5 a6 a7 a8 x y z] w (fun e w' => e = .returned (.string (fmtT a0 a1 a2 a3 a4 a5 a6 a7 a8 x y z)) ∧ Below w.heap.size w w') := by
  have HT : Held w (w.alloc (.cells #[.int .i64 a0, .int .i64 a1, .int .i64 a2, .int .i64 a3, .int .i64 a4, .int .i64 a5, .int .i64 a6, .int .i64 a7, .int .i64 a8, .int .i64 x, .int .i64 y, .int .i64 z] 26)) [(w.heap.size, [.int .i64 a0, .int .i64 a1, .int .i64 a2, .int .i64 a3, .int .i64 a4, .int .i64 a5, .int .i64 a6, .int .i64 a7, .int .i64 a8, .int .i64 x, .int .i64 y, .int .i64 z])] := by
    have h := (Held.nil w).new #[.int .i64 a0, .int .i64 a1, .int .i64 a2, .int .i64 a3, .int .i64 a4, .int .i64 a5, .int .i64 a6, .int .i64 a7, .int .i64 a8, .int .i64 x, .int .i64 y, .int .i64 z] 26
    simpa only [World.size_alloc] using h
  have HC : ∀ W, Held w W [(w.heap.size, [.int .i64 a0, .int .i64 a1, .int .i64 a2, .int .i64 a3, .int .i64 a4, .int .i64 a5, .int .i64 a6, .int .i64 a7, .int .i64 a8, .int .i64 x, .int .i64 y, .int .i64 z])] → (W.cell? ⟨w.heap.size, 0, none⟩ = some (.int .i64 a0) ∧ W.cell? ⟨w.heap.size, 1, none⟩ = some (.int .i64 a1) ∧ W.cell? ⟨w.heap.size, 2, none⟩ = some (.int .i64 a2) ∧ W.cell? ⟨w.heap.size, 3, none⟩ = some (.int .i64 a3) ∧ W.cell? ⟨w.heap.size, 4, none⟩ = some (.int .i64 a4) ∧ W.cell? ⟨w.heap.size, 5, none⟩ = some (.int .i64 a5) ∧ W.cell? ⟨w.heap.size, 6, none⟩ = some (.int .i64 a6) ∧ W.cell? ⟨w.heap.size, 7, none⟩ = some (.int .i64 a7) ∧ W.cell? ⟨w.heap.size, 8, none⟩ = some (.int .i64 a8) ∧ W.cell? ⟨w.heap.size, 9, none⟩ = some (.int .i64 x) ∧ W.cell? ⟨w.heap.size, 10, none⟩ = some (.int .i64 y) ∧ W.cell? ⟨w.heap.size, 11, none⟩ = some (.int .i64 z)) := fun W h => ⟨(h.box 0).c 0, (h.box 0).c 1, (h.box 0).c 2, (h.box 0).c 3, (h.box 0).c 4, (h.box 0).c 5, (h.box 0).c 6, (h.box 0).c 7, (h.box 0).c 8, (h.box 0).c 9, (h.box 0).c 10, (h.box 0).c 11⟩
  obtain ⟨F1, hf1⟩ : ∃ F1, F1 = fmtsP [a0, a1, a2, a3, a4, a5, a6, a7, a8] := ⟨_, rfl⟩
  obtain ⟨F2, hf2⟩ : ∃ F2, F2 = fmtV x y z := ⟨_, rfl⟩
  have hs1 : F1.size ≤ 1048576 := by rw [hf1]; exact fmtsT_size _ (by simp)
  have hs2 : F2.size ≤ 1048576 := by rw [hf2]; exact fmtVT_le _ _ _
  have hq1 : ¬ 9223372036854775807 < F1.size + 1 := by omega
  have hq2 : ¬ 9223372036854775807 < F1.size + 1 + F2.size := by omega
  have hr1 : ∀ W : World, (Op.stringOp .add F1 ⟨#[59]⟩).run Tryd.prog W = .ok (.string (F1 ++ ⟨#[59]⟩)) W := fun W => run_string_add_sum W _ _ (by show F1.size + 1 ≤ _; omega)
  have hr2 : ∀ W : World, (Op.stringOp .add (F1 ++ ⟨#[59]⟩) F2).run Tryd.prog W = .ok (.string ((F1 ++ ⟨#[59]⟩) ++ F2)) W := fun W => run_string_add_sum W _ _ (by rw [ByteArray.size_append]; show F1.size + 1 + F2.size ≤ _; omega)
  have HF1 := Lib.hid hf1
  have HF2 := Lib.hid hf2
  clear hf1 hf2
  rcases h0 : okT [a0, a1, a2, a3, a4, a5, a6, a7, a8] x y z with _ | _
  · go_enter Tryd.func29, Tryd.ntmps29
    have c0 := (HT.box 0).c 0
    have c1 := (HT.box 0).c 1
    have c2 := (HT.box 0).c 2
    have c3 := (HT.box 0).c 3
    have c4 := (HT.box 0).c 4
    have c5 := (HT.box 0).c 5
    have c6 := (HT.box 0).c 6
    have c7 := (HT.box 0).c 7
    have c8 := (HT.box 0).c 8
    have c9 := (HT.box 0).c 9
    have c10 := (HT.box 0).c 10
    have c11 := (HT.box 0).c 11
    go_wp2_with fail
    refine (sIsValidTransform_any _ _ _ _ _ _ _ _ _ _ _ _ _).mono ?_
    rintro e w1 ⟨rfl, hb1⟩
    rw [h0]
    have HT := HT.later hb1
    clear hb1 c0 c1 c2 c3 c4 c5 c6 c7 c8 c9 c10 c11
    go_wp2_with fail
    go_ret
    exact ⟨ret_str3 (by unfold fmtT; rw [h0]; rfl), HT.below⟩
  · go_enter Tryd.func29, Tryd.ntmps29
    have c0 := (HT.box 0).c 0
    have c1 := (HT.box 0).c 1
    have c2 := (HT.box 0).c 2
    have c3 := (HT.box 0).c 3
    have c4 := (HT.box 0).c 4
    have c5 := (HT.box 0).c 5
    have c6 := (HT.box 0).c 6
    have c7 := (HT.box 0).c 7
    have c8 := (HT.box 0).c 8
    have c9 := (HT.box 0).c 9
    have c10 := (HT.box 0).c 10
    have c11 := (HT.box 0).c 11
    go_wp2_with fail
    refine (sIsValidTransform_any _ _ _ _ _ _ _ _ _ _ _ _ _).mono ?_
    rintro e w1 ⟨rfl, hb1⟩
    rw [h0]
    have HT := HT.later hb1
    clear hb1 c0 c1 c2 c3 c4 c5 c6 c7 c8 c9 c10 c11
    go_wp2_with fail
    go_region_held3 (fun w' => w'.cell? ⟨w.heap.size, 0, none⟩ = some (.int .i64 a0) ∧ w'.cell? ⟨w.heap.size, 1, none⟩ = some (.int .i64 a1) ∧ w'.cell? ⟨w.heap.size, 2, none⟩ = some (.int .i64 a2) ∧ w'.cell? ⟨w.heap.size, 3, none⟩ = some (.int .i64 a3) ∧ w'.cell? ⟨w.heap.size, 4, none⟩ = some (.int .i64 a4) ∧ w'.cell? ⟨w.heap.size, 5, none⟩ = some (.int .i64 a5) ∧ w'.cell? ⟨w.heap.size, 6, none⟩ = some (.int .i64 a6) ∧ w'.cell? ⟨w.heap.size, 7, none⟩ = some (.int .i64 a7) ∧ w'.cell? ⟨w.heap.size, 8, none⟩ = some (.int .i64 a8) ∧ w'.cell? ⟨w.heap.size, 9, none⟩ = some (.int .i64 x) ∧ w'.cell? ⟨w.heap.size, 10, none⟩ = some (.int .i64 y) ∧ w'.cell? ⟨w.heap.size, 11, none⟩ = some (.int .i64 z))
      (first | (with_reducible exact HC _ HT) | (with_reducible exact HC _ HT.drew))
      (first | (go_at_call 67; (first | refine (sFormats_any _ _ [a0, a1, a2, a3, a4, a5, a6, a7, a8] _ (row9 (HT.box 0)) (by simp)).mono ?_ | refine (sFormats_any _ _ [a0, a1, a2, a3, a4, a5, a6, a7, a8] _ (row9 (HT.drew.box 0)) (by simp)).mono ?_); rintro e w1 ⟨rfl, hb1⟩; (first | (have HT := HT.later hb1) | (have HT := HT.drew.later hb1)); rw [← HF1.out]) | (go_at_call 65; refine (sFormatVec_any _ _ _ _).mono ?_; rintro e w1 ⟨rfl, hb1⟩; (first | (have HT := HT.later hb1) | (have HT := HT.drew.later hb1)); rw [← HF2.out]))
    go_wp2
    go_ret
    exact ⟨ret_str3 (by unfold fmtT; rw [h0, HF1.out, HF2.out]; rfl), HT.below⟩
end Go.Proofs.YtjflkapdnnecjaaDoor
