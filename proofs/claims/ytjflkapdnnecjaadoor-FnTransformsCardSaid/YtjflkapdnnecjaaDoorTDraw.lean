/- Contracts of drawn transforms: l04Draw and MakeTransform. -/
import Derived.Test.YtjflkapdnnecjaaDoorProg
import Derived.Test.YtjflkapdnnecjaaDoorInts
import Derived.Test.YtjflkapdnnecjaaDoorMem
import Derived.Test.YtjflkapdnnecjaaDoorIntS
import Derived.Test.YtjflkapdnnecjaaDoorCur
import Derived.Test.YtjflkapdnnecjaaDoorVbox
import Derived.Test.YtjflkapdnnecjaaDoorVec
import Derived.Test.YtjflkapdnnecjaaDoorHeld
import Derived.Test.YtjflkapdnnecjaaDoorArr
import Derived.Test.YtjflkapdnnecjaaDoorTr
import Derived.Test.YtjflkapdnnecjaaDoorTMat
import Derived.Test.YtjflkapdnnecjaaDoorTIden
import Derived.Test.YtjflkapdnnecjaaDoorTUni
import Derived.Test.YtjflkapdnnecjaaDoorTTra
import Derived.Test.YtjflkapdnnecjaaDoorTQm
import Derived.Test.YtjflkapdnnecjaaDoorTQs
import Derived.Test.YtjflkapdnnecjaaDoorTQs0
import Derived.Test.YtjflkapdnnecjaaDoorTQs1
import Derived.Test.YtjflkapdnnecjaaDoorTQs2
import Derived.Test.YtjflkapdnnecjaaDoorVDraw
import Derived.WalkKit
import Derived.WalkSpells
import Derived.WalkLawsBesides
import Derived.Lib.Hide
import Derived.Deep.RegionHeld3
import Derived.Deep.QuietTactic
import Derived.BigQuiet
import Derived.Handy
import Derived.Deep.DeepCutAuto
namespace Go.Proofs.YtjflkapdnnecjaaDoor
open Go.RowKit

/-- some valid transform is answered -/
def TrGood (w : World) (e : Ending) (w' : World) : Prop := ∃ b0 b1 b2 b3 b4 b5 b6 b7 b8 u v t : Int, okT [b0, b1, b2, b3, b4, b5, b6, b7, b8] u v t = true ∧ e = .returned (tr b0 b1 b2 b3 b4 b5 b6 b7 b8 u v t) ∧ Below w.heap.size w w'
def TrDrawn (B g : Nat) (w : World) (e : Ending) (w' : World) : Prop := ∃ b0 b1 b2 b3 b4 b5 b6 b7 b8 u v t : Int, okT [b0, b1, b2, b3, b4, b5, b6, b7, b8] u v t = true ∧ e = .returned (tr b0 b1 b2 b3 b4 b5 b6 b7 b8 u v t) ∧ Cur w' B g ∧ Below B w w'
theorem Mbox.grownT {w w' : World} {k g : Nat} {vs : List Value} (h : Mbox w k vs) (hg : w.grownBy w' (some g)) (hk : k ≠ g) : Mbox w' k vs := h.keep fun hl => hg.block k hl (fun e => by injection e with e; exact hk e)
theorem good_of {w w' : World} {e : Ending} {b0 b1 b2 b3 b4 b5 b6 b7 b8 u v t : Int} (ho : okT [b0, b1, b2, b3, b4, b5, b6, b7, b8] u v t = true) (h : TrOut b0 b1 b2 b3 b4 b5 b6 b7 b8 u v t w e w') : TrGood w e w' := ⟨b0, b1, b2, b3, b4, b5, b6, b7, b8, u, v, t, ho, h.1, h.2⟩

theorem quarter_good (a k : Int) (w : World) (h0 : 0 ≤ a) (h1 : a ≤ 2) (k0 : 0 ≤ k) (k1 : k ≤ 3) :
    Calls Tryd.prog 73 #[.int .i64 a, .int .i64 k] w (TrGood w) := by
  have ha : a = 0 ∨ a = 1 ∨ a = 2 := by omega
  have hk : k = 0 ∨ k = 1 ∨ k = 2 ∨ k = 3 := by omega
  clear h0 h1 k0 k1
  rcases ha with rfl | rfl | rfl
  · rcases hk with rfl | rfl | rfl | rfl
    · refine (sQuarter_0 0 w (by omega) (by omega)).mono ?_
      rintro e w' ⟨rfl, hb⟩
      exact ⟨16, 0, 0, 0, 16, 0, 0, 0, 16, 0, 0, 0, by decide, rfl, hb⟩
    · refine (sQuarter_0 1 w (by omega) (by omega)).mono ?_
      rintro e w' ⟨rfl, hb⟩
      exact ⟨16, 0, 0, 0, 0, -16, 0, 16, 0, 0, 0, 0, by decide, rfl, hb⟩
    · refine (sQuarter_0 2 w (by omega) (by omega)).mono ?_
      rintro e w' ⟨rfl, hb⟩
      exact ⟨16, 0, 0, 0, -16, 0, 0, 0, -16, 0, 0, 0, by decide, rfl, hb⟩
    · refine (sQuarter_0 3 w (by omega) (by omega)).mono ?_
      rintro e w' ⟨rfl, hb⟩
      exact ⟨16, 0, 0, 0, 0, 16, 0, -16, 0, 0, 0, 0, by decide, rfl, hb⟩
  · rcases hk with rfl | rfl | rfl | rfl
    · refine (sQuarter_1 0 w (by omega) (by omega)).mono ?_
      rintro e w' ⟨rfl, hb⟩
      exact ⟨16, 0, 0, 0, 16, 0, 0, 0, 16, 0, 0, 0, by decide, rfl, hb⟩
    · refine (sQuarter_1 1 w (by omega) (by omega)).mono ?_
      rintro e w' ⟨rfl, hb⟩
      exact ⟨0, 0, 16, 0, 16, 0, -16, 0, 0, 0, 0, 0, by decide, rfl, hb⟩
    · refine (sQuarter_1 2 w (by omega) (by omega)).mono ?_
      rintro e w' ⟨rfl, hb⟩
      exact ⟨-16, 0, 0, 0, 16, 0, 0, 0, -16, 0, 0, 0, by decide, rfl, hb⟩
    · refine (sQuarter_1 3 w (by omega) (by omega)).mono ?_
      rintro e w' ⟨rfl, hb⟩
      exact ⟨0, 0, -16, 0, 16, 0, 16, 0, 0, 0, 0, 0, by decide, rfl, hb⟩
  · rcases hk with rfl | rfl | rfl | rfl
    · refine (sQuarter_2 0 w (by omega) (by omega)).mono ?_
      rintro e w' ⟨rfl, hb⟩
      exact ⟨16, 0, 0, 0, 16, 0, 0, 0, 16, 0, 0, 0, by decide, rfl, hb⟩
    · refine (sQuarter_2 1 w (by omega) (by omega)).mono ?_
      rintro e w' ⟨rfl, hb⟩
      exact ⟨0, -16, 0, 16, 0, 0, 0, 0, 16, 0, 0, 0, by decide, rfl, hb⟩
    · refine (sQuarter_2 2 w (by omega) (by omega)).mono ?_
      rintro e w' ⟨rfl, hb⟩
      exact ⟨-16, 0, 0, 0, -16, 0, 0, 0, 16, 0, 0, 0, by decide, rfl, hb⟩
    · refine (sQuarter_2 3 w (by omega) (by omega)).mono ?_
      rintro e w' ⟨rfl, hb⟩
      exact ⟨0, 16, 0, -16, 0, 0, 0, 0, 16, 0, 0, 0, by decide, rfl, hb⟩

theorem id_valid {n : Int} (h0 : -64 ≤ n) (h1 : n ≤ 64) : ∀ i, i < 9 → okM (([16, 0, 0, 0, 16, 0, 0, 0, 16] : List Int).set i n) = true := by
  intro i hi
  have hn := (in64_iff n).2 ⟨h0, h1⟩
  have hi9 : i = 0 ∨ i = 1 ∨ i = 2 ∨ i = 3 ∨ i = 4 ∨ i = 5 ∨ i = 6 ∨ i = 7 ∨ i = 8 := by omega
  rcases hi9 with rfl | rfl | rfl | rfl | rfl | rfl | rfl | rfl | rfl <;> simp [okM, hn] <;> decide
theorem id_good {n : Int} (h0 : -64 ≤ n) (h1 : n ≤ 64) (i : Nat) (hi : i < 9) : okT (([16, 0, 0, 0, 16, 0, 0, 0, 16] : List Int).set i n) 0 0 0 = true := by
  unfold okT
  rw [id_valid h0 h1 i hi, okB_zero]; rfl
theorem scaleT_good (i : Int) (w : World) (h0 : -64 ≤ i) (h1 : i ≤ 64) : Calls Tryd.prog 74 #[.int .i64 i] w (TrGood w) :=
  (sUniformScale_in i w h0 h1).mono fun _ _ h => good_of (by rw [okT_diag, okB_zero, (in64_iff i).2 ⟨h0, h1⟩]; rfl) h
theorem transT_good (x y z : Int) (w : World) (hx : -1000 ≤ x ∧ x ≤ 1000) (hy : -1000 ≤ y ∧ y ≤ 1000) (hz : -1000 ≤ z ∧ z ≤ 1000) : Calls Tryd.prog 75 #[vec x y z] w (TrGood w) :=
  have ho : okB x y z = true := (okB_iff ..).2 ⟨by omega, by omega, by omega⟩
  (sTranslation_yes x y z w ho).mono fun _ _ h => good_of (by rw [okT_diag, ho]; rfl) h
set_option maxRecDepth 100000 in
set_option maxHeartbeats 4000000 in
theorem draw4_any (B g : Nat) (w : World) (hC : Cur w B g) (hB : B ≤ w.heap.size) :
    Calls Tryd.prog 40 #[.pointer (some ⟨g, 0, none⟩)] w (TrDrawn B g w) := by
  have hge := hC.ge
  have hgl := hC.lt
  have HR : Mbox ((w.alloc (.cells #[.int .i64 0, .int .i64 0, .int .i64 0, .int .i64 0, .int .i64 0, .int .i64 0, .int .i64 0, .int .i64 0, .int .i64 0, .int .i64 0, .int .i64 0, .int .i64 0] 26))) w.heap.size [.int .i64 0, .int .i64 0, .int .i64 0, .int .i64 0, .int .i64 0, .int .i64 0, .int .i64 0, .int .i64 0, .int .i64 0, .int .i64 0, .int .i64 0, .int .i64 0] := Mbox.new w #[.int .i64 0, .int .i64 0, .int .i64 0, .int .i64 0, .int .i64 0, .int .i64 0, .int .i64 0, .int .i64 0, .int .i64 0, .int .i64 0, .int .i64 0, .int .i64 0] 26
  have HW : Below B w ((w.alloc (.cells #[.int .i64 0, .int .i64 0, .int .i64 0, .int .i64 0, .int .i64 0, .int .i64 0, .int .i64 0, .int .i64 0, .int .i64 0, .int .i64 0, .int .i64 0, .int .i64 0] 26))) := (Below.refl _ _).alloc hB _
  have hC0 : Cur ((w.alloc (.cells #[.int .i64 0, .int .i64 0, .int .i64 0, .int .i64 0, .int .i64 0, .int .i64 0, .int .i64 0, .int .i64 0, .int .i64 0, .int .i64 0, .int .i64 0, .int .i64 0] 26))) B g := hC.keep (gb_of_below ((Below.refl _ _).alloc (Nat.le_refl _) _) (row := none)) (fun r h => by cases h) (by simp)
  have hz : B ≤ ((w.alloc (.cells #[.int .i64 0, .int .i64 0, .int .i64 0, .int .i64 0, .int .i64 0, .int .i64 0, .int .i64 0, .int .i64 0, .int .i64 0, .int .i64 0, .int .i64 0, .int .i64 0] 26))).heap.size := by simp; omega
  have HC := Lib.hid hC0
  clear hC hC0
  go_enter Tryd.func40, Tryd.ntmps40
  go_wp2_with fail
  refine (below_any B g 4 _ HC.out (by omega) (by omega)).mono ?_
  rintro e w1 ⟨m, mlo, mhi, rfl, hC1, hg1⟩
  have HR := HR.grownT hg1 (by omega)
  have HW := HW.grown hg1 hz (fun k h => by injection h with h; omega)
  have hz := Nat.le_trans hz hg1.size
  have HC := Lib.hid hC1
  clear hC1 hg1
  have hm : m = 0 ∨ m = 1 ∨ m = 2 ∨ m = 3 := by omega
  clear mlo mhi
  rcases hm with rfl | rfl | rfl | rfl
  · skip
    go_wp2_with fail
    refine (below_any B g 3 _ HC.out (by omega) (by omega)).mono ?_
    rintro e w2 ⟨a, alo, ahi, rfl, hC2, hg2⟩
    have HR := HR.grownT hg2 (by omega)
    have HW := HW.grown hg2 hz (fun k h => by injection h with h; omega)
    have hz := Nat.le_trans hz hg2.size
    have HC := Lib.hid hC2
    clear hC2 hg2
    go_wp2_with fail
    refine (below_any B g 4 _ HC.out (by omega) (by omega)).mono ?_
    rintro e w3 ⟨k, klo, khi, rfl, hC3, hg3⟩
    have HR := HR.grownT hg3 (by omega)
    have HW := HW.grown hg3 hz (fun k h => by injection h with h; omega)
    have hz := Nat.le_trans hz hg3.size
    have HC := Lib.hid hC3
    clear hC3 hg3
    go_wp2_with fail
    refine (quarter_good a k _ (by omega) (by omega) (by omega) (by omega)).mono ?_
    rintro e w4 ⟨b0, b1, b2, b3, b4, b5, b6, b7, b8, u, v, t, hok, rfl, hb4⟩
    have HR := HR.later hb4
    have HCN := Lib.hid (HC.out.keep (gb_of_below hb4 (row := none)) (fun r h => by cases h) (by simp))
    have HW := HW.trans (hb4.mono hz)
    have hz := Nat.le_trans hz hb4.size
    have r0 := HR.c 0
    have r1 := HR.c 1
    have r2 := HR.c 2
    have r3 := HR.c 3
    have r4 := HR.c 4
    have r5 := HR.c 5
    have r6 := HR.c 6
    have r7 := HR.c 7
    have r8 := HR.c 8
    have r9 := HR.c 9
    have r10 := HR.c 10
    have r11 := HR.c 11
    have g0 := HR.f 0
    have g1 := HR.f 1
    have g2 := HR.f 2
    have g3 := HR.f 3
    have g4 := HR.f 4
    have g5 := HR.f 5
    have g6 := HR.f 6
    have g7 := HR.f 7
    have g8 := HR.f 8
    have g9 := HR.f 9
    have g10 := HR.f 10
    have g11 := HR.f 11
    clear hb4 HR HC
    go_wp2_with fail
    exact bodyPost_ret (v := tr b0 b1 b2 b3 b4 b5 b6 b7 b8 u v t) (by simp [results, Tryd.results40, go_sem, r0, r1, r2, r3, r4, r5, r6, r7, r8, r9, r10, r11]) rfl ⟨b0, b1, b2, b3, b4, b5, b6, b7, b8, u, v, t, hok, rfl, HCN.out.keep (gb_set (gb_set (gb_set (gb_set (gb_set (gb_set (gb_set (gb_set (gb_set (gb_set (gb_set (gb_set (gb_refl _ _) _) _) _) _) _) _) _) _) _) _) _) _) (fun r h => by injection h with h; omega) (fun h => by injection h with h; omega), bset_far12 HW (by omega)⟩

  · skip
    go_wp2_with fail
    refine (below_any B g 24 _ HC.out (by omega) (by omega)).mono ?_
    rintro e w2 ⟨i, ilo, ihi, rfl, hC2, hg2⟩
    have HR := HR.grownT hg2 (by omega)
    have HW := HW.grown hg2 hz (fun k h => by injection h with h; omega)
    have hz := Nat.le_trans hz hg2.size
    have HC := Lib.hid hC2
    clear hC2 hg2
    go_wp2_with fail
    refine (scaleT_good (4 + i) _ (by omega) (by omega)).mono ?_
    rintro e w3 ⟨b0, b1, b2, b3, b4, b5, b6, b7, b8, u, v, t, hok, rfl, hb3⟩
    have HR := HR.later hb3
    have HCN := Lib.hid (HC.out.keep (gb_of_below hb3 (row := none)) (fun r h => by cases h) (by simp))
    have HW := HW.trans (hb3.mono hz)
    have hz := Nat.le_trans hz hb3.size
    have r0 := HR.c 0
    have r1 := HR.c 1
    have r2 := HR.c 2
    have r3 := HR.c 3
    have r4 := HR.c 4
    have r5 := HR.c 5
    have r6 := HR.c 6
    have r7 := HR.c 7
    have r8 := HR.c 8
    have r9 := HR.c 9
    have r10 := HR.c 10
    have r11 := HR.c 11
    have g0 := HR.f 0
    have g1 := HR.f 1
    have g2 := HR.f 2
    have g3 := HR.f 3
    have g4 := HR.f 4
    have g5 := HR.f 5
    have g6 := HR.f 6
    have g7 := HR.f 7
    have g8 := HR.f 8
    have g9 := HR.f 9
    have g10 := HR.f 10
    have g11 := HR.f 11
    clear hb3 HR HC
    go_wp2_with fail
    exact bodyPost_ret (v := tr b0 b1 b2 b3 b4 b5 b6 b7 b8 u v t) (by simp [results, Tryd.results40, go_sem, r0, r1, r2, r3, r4, r5, r6, r7, r8, r9, r10, r11]) rfl ⟨b0, b1, b2, b3, b4, b5, b6, b7, b8, u, v, t, hok, rfl, HCN.out.keep (gb_set (gb_set (gb_set (gb_set (gb_set (gb_set (gb_set (gb_set (gb_set (gb_set (gb_set (gb_set (gb_refl _ _) _) _) _) _) _) _) _) _) _) _) _) _) (fun r h => by injection h with h; omega) (fun h => by injection h with h; omega), bset_far12 HW (by omega)⟩

  · skip
    go_wp2_with fail
    refine (below_any B g 60 _ HC.out (by omega) (by omega)).mono ?_
    rintro e w2 ⟨p, plo, phi, rfl, hC2, hg2⟩
    have HR := HR.grownT hg2 (by omega)
    have HW := HW.grown hg2 hz (fun k h => by injection h with h; omega)
    have hz := Nat.le_trans hz hg2.size
    have HC := Lib.hid hC2
    clear hC2 hg2
    go_wp2_with fail
    refine (below_any B g 60 _ HC.out (by omega) (by omega)).mono ?_
    rintro e w3 ⟨q, qlo, qhi, rfl, hC3, hg3⟩
    have HR := HR.grownT hg3 (by omega)
    have HW := HW.grown hg3 hz (fun k h => by injection h with h; omega)
    have hz := Nat.le_trans hz hg3.size
    have HC := Lib.hid hC3
    clear hC3 hg3
    go_wp2_with fail
    refine (below_any B g 40 _ HC.out (by omega) (by omega)).mono ?_
    rintro e w4 ⟨r, rlo, rhi, rfl, hC4, hg4⟩
    have HR := HR.grownT hg4 (by omega)
    have HW := HW.grown hg4 hz (fun k h => by injection h with h; omega)
    have hz := Nat.le_trans hz hg4.size
    have HC := Lib.hid hC4
    clear hC4 hg4
    go_wp2_with fail
    refine (transT_good (p - 30) (q - 30) r _ (by omega) (by omega) (by omega)).mono ?_
    rintro e w5 ⟨b0, b1, b2, b3, b4, b5, b6, b7, b8, u, v, t, hok, rfl, hb5⟩
    have HR := HR.later hb5
    have HCN := Lib.hid (HC.out.keep (gb_of_below hb5 (row := none)) (fun r h => by cases h) (by simp))
    have HW := HW.trans (hb5.mono hz)
    have hz := Nat.le_trans hz hb5.size
    have r0 := HR.c 0
    have r1 := HR.c 1
    have r2 := HR.c 2
    have r3 := HR.c 3
    have r4 := HR.c 4
    have r5 := HR.c 5
    have r6 := HR.c 6
    have r7 := HR.c 7
    have r8 := HR.c 8
    have r9 := HR.c 9
    have r10 := HR.c 10
    have r11 := HR.c 11
    have g0 := HR.f 0
    have g1 := HR.f 1
    have g2 := HR.f 2
    have g3 := HR.f 3
    have g4 := HR.f 4
    have g5 := HR.f 5
    have g6 := HR.f 6
    have g7 := HR.f 7
    have g8 := HR.f 8
    have g9 := HR.f 9
    have g10 := HR.f 10
    have g11 := HR.f 11
    clear hb5 HR HC
    go_wp2_with fail
    exact bodyPost_ret (v := tr b0 b1 b2 b3 b4 b5 b6 b7 b8 u v t) (by simp [results, Tryd.results40, go_sem, r0, r1, r2, r3, r4, r5, r6, r7, r8, r9, r10, r11]) rfl ⟨b0, b1, b2, b3, b4, b5, b6, b7, b8, u, v, t, hok, rfl, HCN.out.keep (gb_set (gb_set (gb_set (gb_set (gb_set (gb_set (gb_set (gb_set (gb_set (gb_set (gb_set (gb_set (gb_refl _ _) _) _) _) _) _) _) _) _) _) _) _) _) (fun r h => by injection h with h; omega) (fun h => by injection h with h; omega), bset_far12 HW (by omega)⟩

  · go_wp2_with fail
    refine (sIdentity_any _).mono ?_
    rintro e w2 ⟨rfl, hb2⟩
    have hrl : w.heap.size < w2.heap.size := Nat.lt_of_lt_of_le HR.lt hb2.size
    have HR := (HR.later hb2).alloc (.cells #[.int .i64 16, .int .i64 0, .int .i64 0, .int .i64 0, .int .i64 16, .int .i64 0, .int .i64 0, .int .i64 0, .int .i64 16, .int .i64 0, .int .i64 0, .int .i64 0] 26)
    have HC1 := HC.out.keep (gb_of_below hb2 (row := none)) (fun r h => by cases h) (by simp)
    have HC := Lib.hid (HC1.keep (gb_of_below ((Below.refl _ _).alloc (Nat.le_refl _) (.cells #[.int .i64 16, .int .i64 0, .int .i64 0, .int .i64 0, .int .i64 16, .int .i64 0, .int .i64 0, .int .i64 0, .int .i64 16, .int .i64 0, .int .i64 0, .int .i64 0] 26)) (row := none)) (fun r h => by cases h) (by simp))
    have HW := (HW.trans (hb2.mono hz)).alloc (by omega) (.cells #[.int .i64 16, .int .i64 0, .int .i64 0, .int .i64 0, .int .i64 16, .int .i64 0, .int .i64 0, .int .i64 0, .int .i64 16, .int .i64 0, .int .i64 0, .int .i64 0] 26)
    have HQ : Mbox (w2.alloc (.cells #[.int .i64 16, .int .i64 0, .int .i64 0, .int .i64 0, .int .i64 16, .int .i64 0, .int .i64 0, .int .i64 0, .int .i64 16, .int .i64 0, .int .i64 0, .int .i64 0] 26)) w2.heap.size [.int .i64 16, .int .i64 0, .int .i64 0, .int .i64 0, .int .i64 16, .int .i64 0, .int .i64 0, .int .i64 0, .int .i64 16, .int .i64 0, .int .i64 0, .int .i64 0] := Mbox.new w2 #[.int .i64 16, .int .i64 0, .int .i64 0, .int .i64 0, .int .i64 16, .int .i64 0, .int .i64 0, .int .i64 0, .int .i64 16, .int .i64 0, .int .i64 0, .int .i64 0] 26
    have hz : B ≤ (w2.alloc (.cells #[.int .i64 16, .int .i64 0, .int .i64 0, .int .i64 0, .int .i64 16, .int .i64 0, .int .i64 0, .int .i64 0, .int .i64 16, .int .i64 0, .int .i64 0, .int .i64 0] 26)).heap.size := by simp; omega
    clear hb2 HC1
    go_wp2_with fail
    refine (below_any B g 9 _ HC.out (by omega) (by omega)).mono ?_
    rintro e w3 ⟨ix, ixlo, ixhi, rfl, hC3, hg3⟩
    have HR := HR.grownT hg3 (by omega)
    have HQ := HQ.grownT hg3 (by omega)
    have HW := HW.grown hg3 hz (fun k h => by injection h with h; omega)
    have hz := Nat.le_trans hz hg3.size
    have HC := Lib.hid hC3
    clear hC3 hg3
    go_wp2_with fail
    refine (below_any B g 33 _ HC.out (by omega) (by omega)).mono ?_
    rintro e w4 ⟨val, vallo, valhi, rfl, hC4, hg4⟩
    have HR := HR.grownT hg4 (by omega)
    have HQ := HQ.grownT hg4 (by omega)
    have HW := HW.grown hg4 hz (fun k h => by injection h with h; omega)
    have hz := Nat.le_trans hz hg4.size
    have HC := Lib.hid hC4
    clear hC4 hg4
    have r0 := HR.c 0
    have r1 := HR.c 1
    have r2 := HR.c 2
    have r3 := HR.c 3
    have r4 := HR.c 4
    have r5 := HR.c 5
    have r6 := HR.c 6
    have r7 := HR.c 7
    have r8 := HR.c 8
    have r9 := HR.c 9
    have r10 := HR.c 10
    have r11 := HR.c 11
    have g0 := HR.f 0
    have g1 := HR.f 1
    have g2 := HR.f 2
    have g3 := HR.f 3
    have g4 := HR.f 4
    have g5 := HR.f 5
    have g6 := HR.f 6
    have g7 := HR.f 7
    have g8 := HR.f 8
    have g9 := HR.f 9
    have g10 := HR.f 10
    have g11 := HR.f 11
    have c0 := HQ.c 0
    have c1 := HQ.c 1
    have c2 := HQ.c 2
    have c3 := HQ.c 3
    have c4 := HQ.c 4
    have c5 := HQ.c 5
    have c6 := HQ.c 6
    have c7 := HQ.c 7
    have c8 := HQ.c 8
    have c9 := HQ.c 9
    have c10 := HQ.c 10
    have c11 := HQ.c 11
    have f0 := HQ.f 0
    have f1 := HQ.f 1
    have f2 := HQ.f 2
    have f3 := HQ.f 3
    have f4 := HQ.f 4
    have f5 := HQ.f 5
    have f6 := HQ.f 6
    have f7 := HQ.f 7
    have f8 := HQ.f 8
    have f9 := HQ.f 9
    have f10 := HQ.f 10
    have f11 := HQ.f 11
    have hix : ix = 0 ∨ ix = 1 ∨ ix = 2 ∨ ix = 3 ∨ ix = 4 ∨ ix = 5 ∨ ix = 6 ∨ ix = 7 ∨ ix = 8 := by omega
    clear HR HQ ixlo ixhi
    rcases hix with rfl | rfl | rfl | rfl | rfl | rfl | rfl | rfl | rfl
    · have gb : w4.grownBy (w4.setCell ⟨w2.heap.size, 0, none⟩ (.int .i64 (val - 8))) (some w2.heap.size) := gb_set (gb_refl _ _) _
      have HCN := Lib.hid (HC.out.keep gb (fun r h => by injection h with h; omega) (fun h => by injection h with h; omega))
      have HWN := Lib.hid (HW.grown gb hz (fun k h => by injection h with h; omega))
      clear gb HC HW
      go_wp2_with fail
      exact bodyPost_ret (v := tr (val - 8) 0 0 0 16 0 0 0 16 0 0 0) (by simp [results, Tryd.results40, go_sem, r0, r1, r2, r3, r4, r5, r6, r7, r8, r9, r10, r11]) rfl ⟨val - 8, 0, 0, 0, 16, 0, 0, 0, 16, 0, 0, 0, id_good (n := val - 8) (by omega) (by omega) 0 (by omega), rfl, HCN.out.keep (gb_set (gb_set (gb_set (gb_set (gb_set (gb_set (gb_set (gb_set (gb_set (gb_set (gb_set (gb_set (gb_refl _ _) _) _) _) _) _) _) _) _) _) _) _) _) (fun r h => by injection h with h; omega) (fun h => by injection h with h; omega), bset_far12 HWN.out (by omega)⟩
    · have gb : w4.grownBy (w4.setCell ⟨w2.heap.size, 1, none⟩ (.int .i64 (val - 8))) (some w2.heap.size) := gb_set (gb_refl _ _) _
      have HCN := Lib.hid (HC.out.keep gb (fun r h => by injection h with h; omega) (fun h => by injection h with h; omega))
      have HWN := Lib.hid (HW.grown gb hz (fun k h => by injection h with h; omega))
      clear gb HC HW
      go_wp2_with fail
      exact bodyPost_ret (v := tr 16 (val - 8) 0 0 16 0 0 0 16 0 0 0) (by simp [results, Tryd.results40, go_sem, r0, r1, r2, r3, r4, r5, r6, r7, r8, r9, r10, r11]) rfl ⟨16, val - 8, 0, 0, 16, 0, 0, 0, 16, 0, 0, 0, id_good (n := val - 8) (by omega) (by omega) 1 (by omega), rfl, HCN.out.keep (gb_set (gb_set (gb_set (gb_set (gb_set (gb_set (gb_set (gb_set (gb_set (gb_set (gb_set (gb_set (gb_refl _ _) _) _) _) _) _) _) _) _) _) _) _) _) (fun r h => by injection h with h; omega) (fun h => by injection h with h; omega), bset_far12 HWN.out (by omega)⟩
    · have gb : w4.grownBy (w4.setCell ⟨w2.heap.size, 2, none⟩ (.int .i64 (val - 8))) (some w2.heap.size) := gb_set (gb_refl _ _) _
      have HCN := Lib.hid (HC.out.keep gb (fun r h => by injection h with h; omega) (fun h => by injection h with h; omega))
      have HWN := Lib.hid (HW.grown gb hz (fun k h => by injection h with h; omega))
      clear gb HC HW
      go_wp2_with fail
      exact bodyPost_ret (v := tr 16 0 (val - 8) 0 16 0 0 0 16 0 0 0) (by simp [results, Tryd.results40, go_sem, r0, r1, r2, r3, r4, r5, r6, r7, r8, r9, r10, r11]) rfl ⟨16, 0, val - 8, 0, 16, 0, 0, 0, 16, 0, 0, 0, id_good (n := val - 8) (by omega) (by omega) 2 (by omega), rfl, HCN.out.keep (gb_set (gb_set (gb_set (gb_set (gb_set (gb_set (gb_set (gb_set (gb_set (gb_set (gb_set (gb_set (gb_refl _ _) _) _) _) _) _) _) _) _) _) _) _) _) (fun r h => by injection h with h; omega) (fun h => by injection h with h; omega), bset_far12 HWN.out (by omega)⟩
    · have gb : w4.grownBy (w4.setCell ⟨w2.heap.size, 3, none⟩ (.int .i64 (val - 8))) (some w2.heap.size) := gb_set (gb_refl _ _) _
      have HCN := Lib.hid (HC.out.keep gb (fun r h => by injection h with h; omega) (fun h => by injection h with h; omega))
      have HWN := Lib.hid (HW.grown gb hz (fun k h => by injection h with h; omega))
      clear gb HC HW
      go_wp2_with fail
      exact bodyPost_ret (v := tr 16 0 0 (val - 8) 16 0 0 0 16 0 0 0) (by simp [results, Tryd.results40, go_sem, r0, r1, r2, r3, r4, r5, r6, r7, r8, r9, r10, r11]) rfl ⟨16, 0, 0, val - 8, 16, 0, 0, 0, 16, 0, 0, 0, id_good (n := val - 8) (by omega) (by omega) 3 (by omega), rfl, HCN.out.keep (gb_set (gb_set (gb_set (gb_set (gb_set (gb_set (gb_set (gb_set (gb_set (gb_set (gb_set (gb_set (gb_refl _ _) _) _) _) _) _) _) _) _) _) _) _) _) (fun r h => by injection h with h; omega) (fun h => by injection h with h; omega), bset_far12 HWN.out (by omega)⟩
    · have gb : w4.grownBy (w4.setCell ⟨w2.heap.size, 4, none⟩ (.int .i64 (val - 8))) (some w2.heap.size) := gb_set (gb_refl _ _) _
      have HCN := Lib.hid (HC.out.keep gb (fun r h => by injection h with h; omega) (fun h => by injection h with h; omega))
      have HWN := Lib.hid (HW.grown gb hz (fun k h => by injection h with h; omega))
      clear gb HC HW
      go_wp2_with fail
      exact bodyPost_ret (v := tr 16 0 0 0 (val - 8) 0 0 0 16 0 0 0) (by simp [results, Tryd.results40, go_sem, r0, r1, r2, r3, r4, r5, r6, r7, r8, r9, r10, r11]) rfl ⟨16, 0, 0, 0, val - 8, 0, 0, 0, 16, 0, 0, 0, id_good (n := val - 8) (by omega) (by omega) 4 (by omega), rfl, HCN.out.keep (gb_set (gb_set (gb_set (gb_set (gb_set (gb_set (gb_set (gb_set (gb_set (gb_set (gb_set (gb_set (gb_refl _ _) _) _) _) _) _) _) _) _) _) _) _) _) (fun r h => by injection h with h; omega) (fun h => by injection h with h; omega), bset_far12 HWN.out (by omega)⟩
    · have gb : w4.grownBy (w4.setCell ⟨w2.heap.size, 5, none⟩ (.int .i64 (val - 8))) (some w2.heap.size) := gb_set (gb_refl _ _) _
      have HCN := Lib.hid (HC.out.keep gb (fun r h => by injection h with h; omega) (fun h => by injection h with h; omega))
      have HWN := Lib.hid (HW.grown gb hz (fun k h => by injection h with h; omega))
      clear gb HC HW
      go_wp2_with fail
      exact bodyPost_ret (v := tr 16 0 0 0 16 (val - 8) 0 0 16 0 0 0) (by simp [results, Tryd.results40, go_sem, r0, r1, r2, r3, r4, r5, r6, r7, r8, r9, r10, r11]) rfl ⟨16, 0, 0, 0, 16, val - 8, 0, 0, 16, 0, 0, 0, id_good (n := val - 8) (by omega) (by omega) 5 (by omega), rfl, HCN.out.keep (gb_set (gb_set (gb_set (gb_set (gb_set (gb_set (gb_set (gb_set (gb_set (gb_set (gb_set (gb_set (gb_refl _ _) _) _) _) _) _) _) _) _) _) _) _) _) (fun r h => by injection h with h; omega) (fun h => by injection h with h; omega), bset_far12 HWN.out (by omega)⟩
    · have gb : w4.grownBy (w4.setCell ⟨w2.heap.size, 6, none⟩ (.int .i64 (val - 8))) (some w2.heap.size) := gb_set (gb_refl _ _) _
      have HCN := Lib.hid (HC.out.keep gb (fun r h => by injection h with h; omega) (fun h => by injection h with h; omega))
      have HWN := Lib.hid (HW.grown gb hz (fun k h => by injection h with h; omega))
      clear gb HC HW
      go_wp2_with fail
      exact bodyPost_ret (v := tr 16 0 0 0 16 0 (val - 8) 0 16 0 0 0) (by simp [results, Tryd.results40, go_sem, r0, r1, r2, r3, r4, r5, r6, r7, r8, r9, r10, r11]) rfl ⟨16, 0, 0, 0, 16, 0, val - 8, 0, 16, 0, 0, 0, id_good (n := val - 8) (by omega) (by omega) 6 (by omega), rfl, HCN.out.keep (gb_set (gb_set (gb_set (gb_set (gb_set (gb_set (gb_set (gb_set (gb_set (gb_set (gb_set (gb_set (gb_refl _ _) _) _) _) _) _) _) _) _) _) _) _) _) (fun r h => by injection h with h; omega) (fun h => by injection h with h; omega), bset_far12 HWN.out (by omega)⟩
    · have gb : w4.grownBy (w4.setCell ⟨w2.heap.size, 7, none⟩ (.int .i64 (val - 8))) (some w2.heap.size) := gb_set (gb_refl _ _) _
      have HCN := Lib.hid (HC.out.keep gb (fun r h => by injection h with h; omega) (fun h => by injection h with h; omega))
      have HWN := Lib.hid (HW.grown gb hz (fun k h => by injection h with h; omega))
      clear gb HC HW
      go_wp2_with fail
      exact bodyPost_ret (v := tr 16 0 0 0 16 0 0 (val - 8) 16 0 0 0) (by simp [results, Tryd.results40, go_sem, r0, r1, r2, r3, r4, r5, r6, r7, r8, r9, r10, r11]) rfl ⟨16, 0, 0, 0, 16, 0, 0, val - 8, 16, 0, 0, 0, id_good (n := val - 8) (by omega) (by omega) 7 (by omega), rfl, HCN.out.keep (gb_set (gb_set (gb_set (gb_set (gb_set (gb_set (gb_set (gb_set (gb_set (gb_set (gb_set (gb_set (gb_refl _ _) _) _) _) _) _) _) _) _) _) _) _) _) (fun r h => by injection h with h; omega) (fun h => by injection h with h; omega), bset_far12 HWN.out (by omega)⟩
    · have gb : w4.grownBy (w4.setCell ⟨w2.heap.size, 8, none⟩ (.int .i64 (val - 8))) (some w2.heap.size) := gb_set (gb_refl _ _) _
      have HCN := Lib.hid (HC.out.keep gb (fun r h => by injection h with h; omega) (fun h => by injection h with h; omega))
      have HWN := Lib.hid (HW.grown gb hz (fun k h => by injection h with h; omega))
      clear gb HC HW
      go_wp2_with fail
      exact bodyPost_ret (v := tr 16 0 0 0 16 0 0 0 (val - 8) 0 0 0) (by simp [results, Tryd.results40, go_sem, r0, r1, r2, r3, r4, r5, r6, r7, r8, r9, r10, r11]) rfl ⟨16, 0, 0, 0, 16, 0, 0, 0, val - 8, 0, 0, 0, id_good (n := val - 8) (by omega) (by omega) 8 (by omega), rfl, HCN.out.keep (gb_set (gb_set (gb_set (gb_set (gb_set (gb_set (gb_set (gb_set (gb_set (gb_set (gb_set (gb_set (gb_refl _ _) _) _) _) _) _) _) _) _) _) _) _) _) (fun r h => by injection h with h; omega) (fun h => by injection h with h; omega), bset_far12 HWN.out (by omega)⟩

set_option maxHeartbeats 2000000 in
theorem makeTransform_any (A : Option Addr) (c : Nat) (bs : List Int) (w : World) (hR : Row U8 w w.heap.size A bs) (h8 : ∀ x ∈ bs, 0 ≤ x ∧ x ≤ 255) (hl : bs.length ≤ 1048576) :
    Calls Tryd.prog 12 #[.slice A bs.length c] w (TrGood w) := by
  have HW : Below w.heap.size w ((w.alloc (.cells #[.int .i64 0, .int .i64 0, .int .i64 0, .int .i64 0, .int .i64 0, .int .i64 0, .int .i64 0, .int .i64 0, .int .i64 0, .int .i64 0, .int .i64 0, .int .i64 0] 26))) := (Below.refl _ _).alloc (Nat.le_refl _) _
  have HR : Mbox ((w.alloc (.cells #[.int .i64 0, .int .i64 0, .int .i64 0, .int .i64 0, .int .i64 0, .int .i64 0, .int .i64 0, .int .i64 0, .int .i64 0, .int .i64 0, .int .i64 0, .int .i64 0] 26))) w.heap.size [.int .i64 0, .int .i64 0, .int .i64 0, .int .i64 0, .int .i64 0, .int .i64 0, .int .i64 0, .int .i64 0, .int .i64 0, .int .i64 0, .int .i64 0, .int .i64 0] := Mbox.new w #[.int .i64 0, .int .i64 0, .int .i64 0, .int .i64 0, .int .i64 0, .int .i64 0, .int .i64 0, .int .i64 0, .int .i64 0, .int .i64 0, .int .i64 0, .int .i64 0] 26
  have hR1 := hR.later HW
  go_enter Tryd.func12, Tryd.ntmps12
  go_wp2_with fail
  refine (new_any _ _ bs _ hR1 h8 hl).mono ?_
  rintro e w1 ⟨g, rfl, hC, hb⟩
  have HR := HR.later hb
  have HW := bcall HW hb (by simp)
  have hs := hb.size
  have HC := Lib.hid hC
  have HS := Lib.hid hs
  clear hR hR1 h8 hb hC hs
  go_wp2_with fail
  refine (draw4_any _ g _ HC.out HS.out).mono ?_
  rintro e w2 ⟨b0, b1, b2, b3, b4, b5, b6, b7, b8, u, v, t, hok, rfl, _, hb2⟩
  have HR := HR.keep (fun _ => hb2.block _ (by simp))
  have HW := HW.trans (hb2.mono (by simp))
  have r0 := HR.c 0
  have r1 := HR.c 1
  have r2 := HR.c 2
  have r3 := HR.c 3
  have r4 := HR.c 4
  have r5 := HR.c 5
  have r6 := HR.c 6
  have r7 := HR.c 7
  have r8 := HR.c 8
  have r9 := HR.c 9
  have r10 := HR.c 10
  have r11 := HR.c 11
  have g0 := HR.f 0
  have g1 := HR.f 1
  have g2 := HR.f 2
  have g3 := HR.f 3
  have g4 := HR.f 4
  have g5 := HR.f 5
  have g6 := HR.f 6
  have g7 := HR.f 7
  have g8 := HR.f 8
  have g9 := HR.f 9
  have g10 := HR.f 10
  have g11 := HR.f 11
  clear hb2 HC HS HR
  go_wp2_with fail
  exact bodyPost_ret (v := tr b0 b1 b2 b3 b4 b5 b6 b7 b8 u v t) (by simp [results, Tryd.results12, go_sem, r0, r1, r2, r3, r4, r5, r6, r7, r8, r9, r10, r11]) rfl ⟨b0, b1, b2, b3, b4, b5, b6, b7, b8, u, v, t, hok, rfl, bset_far12 HW (Nat.le_refl _)⟩
end Go.Proofs.YtjflkapdnnecjaaDoor
