/- Contracts of Covers: the program and its model. -/
import Derived.Test.YtjjafbcfmijppaaProg
import Derived.Test.YtjjafbcfmijppaaInts
import Derived.Test.YtjjafbcfmijppaaVbox
import Derived.Test.YtjjafbcfmijppaaVec
import Derived.Test.YtjjafbcfmijppaaHeld
import Derived.Test.YtjjafbcfmijppaaArr
import Derived.Test.YtjjafbcfmijppaaTr
import Derived.Test.YtjjafbcfmijppaaMem
import Derived.Test.YtjjafbcfmijppaaFlat
import Derived.Test.YtjjafbcfmijppaaRowC
import Derived.Test.YtjjafbcfmijppaaPat
import Derived.Test.YtjjafbcfmijppaaCam
import Derived.Test.YtjjafbcfmijppaaCPrj
import Derived.Test.YtjjafbcfmijppaaTri
import Derived.Test.YtjjafbcfmijppaaTCl
import Derived.Test.YtjjafbcfmijppaaTEd
import Derived.Test.YtjjafbcfmijppaaTSd
import Derived.Test.YtjjafbcfmijppaaTAr
import Derived.Test.YtjjafbcfmijppaaTPu
import Derived.WalkKit
import Derived.WalkSpells
import Derived.WalkLawsBesides
import Derived.Lib.Hide
import Derived.Deep.RegionHeld3
import Derived.Deep.QuietTactic
import Derived.BigQuiet
import Derived.Handy
import Derived.Deep.DeepCutAuto
namespace Go.Proofs.Ytjjafbcfmijppaa
open Go.RowKit

/-- the first k edges have the place on their left -/
def lkP (a b c d e f x y k : Int) : Bool := (decide (k ≤ 0) || leftP a b c d x y) && ((decide (k ≤ 1) || leftP c d e f x y) && (decide (k ≤ 2) || leftP e f a b x y))
theorem lk_zero (a b c d e f x y : Int) : lkP a b c d e f x y 0 = true := rfl
theorem lk_all (a b c d e f x y : Int) : lkP a b c d e f x y 3 = covT a b c d e f x y := rfl
theorem lk_step {a b z c d z' e f z'' x y k : Int} (h0 : 0 ≤ k) (h1 : k < 3) (h : lkP a b c d e f x y k = true)
    (hl : leftP (crV (a, b, z) (c, d, z') (e, f, z'') k).1 (crV (a, b, z) (c, d, z') (e, f, z'') k).2.1 (crV (a, b, z) (c, d, z') (e, f, z'') (k + 1)).1 (crV (a, b, z) (c, d, z') (e, f, z'') (k + 1)).2.1 x y = true) : lkP a b c d e f x y (k + 1) = true := by
  obtain rfl | rfl | rfl : k = 0 ∨ k = 1 ∨ k = 2 := by omega
  all_goals
    simp [crV, lkP] at h hl ⊢
    simp [*]
theorem lk_fail {a b z c d z' e f z'' x y k : Int} (h0 : 0 ≤ k) (h1 : k < 3)
    (hl : leftP (crV (a, b, z) (c, d, z') (e, f, z'') k).1 (crV (a, b, z) (c, d, z') (e, f, z'') k).2.1 (crV (a, b, z) (c, d, z') (e, f, z'') (k + 1)).1 (crV (a, b, z) (c, d, z') (e, f, z'') (k + 1)).2.1 x y = false) : covT a b c d e f x y = false := by
  obtain rfl | rfl | rfl : k = 0 ∨ k = 1 ∨ k = 2 := by omega
  all_goals
    simp [crV] at hl
    simp [covT, hl]
theorem cr_bd {a b z c d z' e f z'' k : Int} (h0 : inS a) (h1 : inS b) (h2 : inS c) (h3 : inS d) (h4 : inS e) (h5 : inS f) : inS (crV (a, b, z) (c, d, z') (e, f, z'') k).1 ∧ inS (crV (a, b, z) (c, d, z') (e, f, z'') k).2.1 := by
  unfold crV
  split
  · exact ⟨h0, h1⟩
  · split
    · exact ⟨h2, h3⟩
    · exact ⟨h4, h5⟩

set_option maxHeartbeats 8000000 in
theorem covers_any (a0 a1 a2 a3 a4 a5 a6 a7 a8 x y : Int) (w : World) :
    Calls Try.prog 12 #[mat a0 a1 a2 a3 a4 a5 a6 a7 a8, .int .i64 x, .int .i64 y] w (BOut (covP a0 a1 a3 a4 a6 a7 x y) w) := by
  obtain ⟨u0, e0_⟩ : ∃ u, u = scr a0 := ⟨_, rfl⟩
  obtain ⟨u1, e1_⟩ : ∃ u, u = scr a1 := ⟨_, rfl⟩
  obtain ⟨u2, e2_⟩ : ∃ u, u = cc a2 := ⟨_, rfl⟩
  obtain ⟨u3, e3_⟩ : ∃ u, u = scr a3 := ⟨_, rfl⟩
  obtain ⟨u4, e4_⟩ : ∃ u, u = scr a4 := ⟨_, rfl⟩
  obtain ⟨u5, e5_⟩ : ∃ u, u = cc a5 := ⟨_, rfl⟩
  obtain ⟨u6, e6_⟩ : ∃ u, u = scr a6 := ⟨_, rfl⟩
  obtain ⟨u7, e7_⟩ : ∃ u, u = scr a7 := ⟨_, rfl⟩
  obtain ⟨u8, e8_⟩ : ∃ u, u = cc a8 := ⟨_, rfl⟩
  have b0 : inS u0 := by rw [e0_]; exact scr_bd a0
  have b1 : inS u1 := by rw [e1_]; exact scr_bd a1
  have b3 : inS u3 := by rw [e3_]; exact scr_bd a3
  have b4 : inS u4 := by rw [e4_]; exact scr_bd a4
  have b6 : inS u6 := by rw [e6_]; exact scr_bd a6
  have b7 : inS u7 := by rw [e7_]; exact scr_bd a7
  obtain ⟨n, en⟩ : ∃ n, n = arP a0 a1 a3 a4 a6 a7 := ⟨_, rfl⟩
  have hid_ : arP u0 u1 u3 u4 u6 u7 = n := by rw [en, ar_in b0 b1 b3 b4 b6 b7]; unfold arP; rw [← e0_, ← e1_, ← e3_, ← e4_, ← e6_, ← e7_]
  have HCl : ∀ w : World, Calls Try.prog 31 #[mat a0 a1 a2 a3 a4 a5 a6 a7 a8] w (MatOut u0 u1 u2 u3 u4 u5 u6 u7 u8 w) := fun w => by rw [e0_, e1_, e2_, e3_, e4_, e5_, e6_, e7_, e8_]; exact tclamped_any a0 a1 a2 a3 a4 a5 a6 a7 a8 w
  have HAr : ∀ w : World, Calls Try.prog 16 #[mat a0 a1 a2 a3 a4 a5 a6 a7 a8] w (IntOut n w) := fun w => by rw [en]; exact signedArea2_any a0 a1 a2 a3 a4 a5 a6 a7 a8 w
  obtain ⟨v0, g0_⟩ : ∃ v, v = u0 := ⟨_, rfl⟩
  obtain ⟨v1, g1_⟩ : ∃ v, v = u1 := ⟨_, rfl⟩
  obtain ⟨v2, g2_⟩ : ∃ v, v = u2 := ⟨_, rfl⟩
  obtain ⟨v3, g3_⟩ : ∃ v, v = orI n u3 u6 := ⟨_, rfl⟩
  obtain ⟨v4, g4_⟩ : ∃ v, v = orI n u4 u7 := ⟨_, rfl⟩
  obtain ⟨v5, g5_⟩ : ∃ v, v = orI n u5 u8 := ⟨_, rfl⟩
  obtain ⟨v6, g6_⟩ : ∃ v, v = orI n u6 u3 := ⟨_, rfl⟩
  obtain ⟨v7, g7_⟩ : ∃ v, v = orI n u7 u4 := ⟨_, rfl⟩
  obtain ⟨v8, g8_⟩ : ∃ v, v = orI n u8 u5 := ⟨_, rfl⟩
  have HOr : ∀ w : World, Calls Try.prog 32 #[mat u0 u1 u2 u3 u4 u5 u6 u7 u8] w (MatOut v0 v1 v2 v3 v4 v5 v6 v7 v8 w) := fun w => by rw [g0_, g1_, g2_, g3_, g4_, g5_, g6_, g7_, g8_, ← hid_]; exact oriented_any u0 u1 u2 u3 u4 u5 u6 u7 u8 w
  have d0 : inS v0 := by rw [g0_]; exact b0
  have d1 : inS v1 := by rw [g1_]; exact b1
  have d3 : inS v3 := by rw [g3_]; unfold orI; split; exact b6; exact b3
  have d4 : inS v4 := by rw [g4_]; unfold orI; split; exact b7; exact b4
  have d6 : inS v6 := by rw [g6_]; unfold orI; split; exact b3; exact b6
  have d7 : inS v7 := by rw [g7_]; unfold orI; split; exact b4; exact b7
  have HB : covP a0 a1 a3 a4 a6 a7 x y = (!(decide (n = 0)) && ((inC (-100000) 100000 x && inC (-100000) 100000 y) && covT v0 v1 v3 v4 v6 v7 x y)) := by
    unfold covP
    rw [← en, ← e0_, ← e1_, ← e3_, ← e4_, ← e6_, ← e7_, g0_, g1_, g3_, g4_, g6_, g7_]
    unfold orI
    by_cases h : n < 0
    · simp only [if_pos h]
    · simp only [if_neg h]
  rw [HB]
  clear HB hid_ en e0_ e1_ e2_ e3_ e4_ e5_ e6_ e7_ e8_ g0_ g1_ g2_ g3_ g4_ g5_ g6_ g7_ g8_ b0 b1 b3 b4 b6 b7
  have HCl := Lib.hid HCl
  have HAr := Lib.hid HAr
  have HOr := Lib.hid HOr
  have HD := Lib.hid (And.intro (And.intro d0 (And.intro d1 d3)) (And.intro d4 (And.intro d6 d7)))
  clear d0 d1 d3 d4 d6 d7
  have HT : Held w (w.alloc (.cells #[.int .i64 a0, .int .i64 a1, .int .i64 a2, .int .i64 a3, .int .i64 a4, .int .i64 a5, .int .i64 a6, .int .i64 a7, .int .i64 a8] 27)) [(w.heap.size, [.int .i64 a0, .int .i64 a1, .int .i64 a2, .int .i64 a3, .int .i64 a4, .int .i64 a5, .int .i64 a6, .int .i64 a7, .int .i64 a8])] := by
    have h := (Held.nil w).new #[.int .i64 a0, .int .i64 a1, .int .i64 a2, .int .i64 a3, .int .i64 a4, .int .i64 a5, .int .i64 a6, .int .i64 a7, .int .i64 a8] 27
    simpa only [World.size_alloc] using h
  by_cases hn : n = 0
  · subst hn
    go_enter Try.func12, Try.ntmps12
    go_wp2_with fail
    refine (HAr.out _).mono ?_
    rintro e w1 ⟨rfl, hb1⟩
    have HT := HT.later hb1
    clear hb1
    have c0 := (HT.box 0).c 0
    have c1 := (HT.box 0).c 1
    have c2 := (HT.box 0).c 2
    have c3 := (HT.box 0).c 3
    have c4 := (HT.box 0).c 4
    have c5 := (HT.box 0).c 5
    have c6 := (HT.box 0).c 6
    have c7 := (HT.box 0).c 7
    have c8 := (HT.box 0).c 8
    go_wp2_with (go_at_call 30; refine (isScreen_any _ _).mono ?_; rintro e w' ⟨rfl, rfl⟩)
    go_ret
    exact ⟨retB (by simp), HT.below⟩
  have hne : (n == 0) = false := by simpa using hn
  have hnd : decide (n = 0) = false := by simpa using hn
  rw [hnd]
  rcases hx : inC (-100000) 100000 x with _ | _
  · skip
    go_enter Try.func12, Try.ntmps12
    go_wp2_with fail
    refine (HAr.out _).mono ?_
    rintro e w1 ⟨rfl, hb1⟩
    have HT := HT.later hb1
    clear hb1
    have c0 := (HT.box 0).c 0
    have c1 := (HT.box 0).c 1
    have c2 := (HT.box 0).c 2
    have c3 := (HT.box 0).c 3
    have c4 := (HT.box 0).c 4
    have c5 := (HT.box 0).c 5
    have c6 := (HT.box 0).c 6
    have c7 := (HT.box 0).c 7
    have c8 := (HT.box 0).c 8
    go_wp2_with (go_at_call 30; refine (isScreen_any _ _).mono ?_; rintro e w' ⟨rfl, rfl⟩; (try simp only [hx]))
    go_ret
    exact ⟨rfl, HT.below⟩
  rcases hy : inC (-100000) 100000 y with _ | _
  · skip
    go_enter Try.func12, Try.ntmps12
    go_wp2_with fail
    refine (HAr.out _).mono ?_
    rintro e w1 ⟨rfl, hb1⟩
    have HT := HT.later hb1
    clear hb1
    have c0 := (HT.box 0).c 0
    have c1 := (HT.box 0).c 1
    have c2 := (HT.box 0).c 2
    have c3 := (HT.box 0).c 3
    have c4 := (HT.box 0).c 4
    have c5 := (HT.box 0).c 5
    have c6 := (HT.box 0).c 6
    have c7 := (HT.box 0).c 7
    have c8 := (HT.box 0).c 8
    go_wp2_with (go_at_call 30; refine (isScreen_any _ _).mono ?_; rintro e w' ⟨rfl, rfl⟩; (try simp only [hx, hy]))
    go_ret
    exact ⟨rfl, HT.below⟩
  have HX := Lib.hid (And.intro ((inC_inS x).1 hx) ((inC_inS y).1 hy))
  rw [show (!false && ((true && true) && covT v0 v1 v3 v4 v6 v7 x y)) = covT v0 v1 v3 v4 v6 v7 x y by cases covT v0 v1 v3 v4 v6 v7 x y <;> rfl]
  go_enter Try.func12, Try.ntmps12
  go_wp2_with fail
  refine (HAr.out _).mono ?_
  rintro e w1 ⟨rfl, hb1⟩
  have HT := HT.later hb1
  clear hb1
  have c0 := (HT.box 0).c 0
  have c1 := (HT.box 0).c 1
  have c2 := (HT.box 0).c 2
  have c3 := (HT.box 0).c 3
  have c4 := (HT.box 0).c 4
  have c5 := (HT.box 0).c 5
  have c6 := (HT.box 0).c 6
  have c7 := (HT.box 0).c 7
  have c8 := (HT.box 0).c 8
  go_wp2_with (go_at_call 30; refine (isScreen_any _ _).mono ?_; rintro e w' ⟨rfl, rfl⟩; (try simp only [hx, hy]))
  refine (HCl.out _).mono ?_
  rintro e w2 ⟨rfl, hb2⟩
  have HT := HT.later hb2
  clear hb2 c0 c1 c2 c3 c4 c5 c6 c7 c8
  go_wp2_with fail
  refine (HOr.out _).mono ?_
  rintro e w3 ⟨rfl, hb3⟩
  have HT := HT.later hb3
  clear hb3
  have c0 := (HT.box 0).c 0
  have c1 := (HT.box 0).c 1
  have c2 := (HT.box 0).c 2
  have c3 := (HT.box 0).c 3
  have c4 := (HT.box 0).c 4
  have c5 := (HT.box 0).c 5
  have c6 := (HT.box 0).c 6
  have c7 := (HT.box 0).c 7
  have c8 := (HT.box 0).c 8
  have f0 := (HT.box 0).f 0
  have f1 := (HT.box 0).f 1
  have f2 := (HT.box 0).f 2
  have f3 := (HT.box 0).f 3
  have f4 := (HT.box 0).f 4
  have f5 := (HT.box 0).f 5
  have f6 := (HT.box 0).f 6
  have f7 := (HT.box 0).f 7
  have f8 := (HT.box 0).f 8
  go_upto_region 4 with fail
  have HP := HT.put9 (by omega) (by simp) (.int .i64 v0) (.int .i64 v1) (.int .i64 v2) (.int .i64 v3) (.int .i64 v4) (.int .i64 v5) (.int .i64 v6) (.int .i64 v7) (.int .i64 v8)
  clear HT c0 c1 c2 c3 c4 c5 c6 c7 c8 f0 f1 f2 f3 f4 f5 f6 f7 f8 hn hne hnd hx hy
  generalize (((((((((w3.setCell ⟨w.heap.size, 0, none⟩ (.int .i64 v0)).setCell ⟨w.heap.size, 1, none⟩ (.int .i64 v1)).setCell ⟨w.heap.size, 2, none⟩ (.int .i64 v2)).setCell ⟨w.heap.size, 3, none⟩ (.int .i64 v3)).setCell ⟨w.heap.size, 4, none⟩ (.int .i64 v4)).setCell ⟨w.heap.size, 5, none⟩ (.int .i64 v5)).setCell ⟨w.heap.size, 6, none⟩ (.int .i64 v6)).setCell ⟨w.heap.size, 7, none⟩ (.int .i64 v7)).setCell ⟨w.heap.size, 8, none⟩ (.int .i64 v8)) = W2 at HP ⊢
  have HH := Lib.hid HP
  clear HP
  go_wp2
  go_loopw [25] (fun i wr => ∃ k : Int, 0 ≤ k ∧ k ≤ 3 ∧ i = .int .i64 k ∧ lkP v0 v1 v3 v4 v6 v7 x y k = true ∧ Held w wr [(w.heap.size, [.int .i64 v0, .int .i64 v1, .int .i64 v2, .int .i64 v3, .int .i64 v4, .int .i64 v5, .int .i64 v6, .int .i64 v7, .int .i64 v8])]) (fun i _ => 3 - (intOf i).toNat)
  case atStart => exact ⟨0, by omega, by omega, rfl, lk_zero .., HH.out⟩
  case round =>
    clear HH
    obtain ⟨k, k0, k3, rfl, hk, HT⟩ := hrel
    by_cases hlt : k < 3
    · have HK := Lib.hid hk
      obtain ⟨bp0, bp1⟩ := cr_bd (z := v2) (z' := v5) (z'' := v8) (k := k) HD.out.1.1 HD.out.1.2.1 HD.out.1.2.2 HD.out.2.1 HD.out.2.2.1 HD.out.2.2.2
      obtain ⟨bq0, bq1⟩ := cr_bd (z := v2) (z' := v5) (z'' := v8) (k := k + 1) HD.out.1.1 HD.out.1.2.1 HD.out.1.2.2 HD.out.2.1 HD.out.2.2.1 HD.out.2.2.2
      have HE : ∀ w : World, Calls Try.prog 33 #[mat v0 v1 v2 v3 v4 v5 v6 v7 v8, .int .i64 k] w (EdgeOut (crV (v0, v1, v2) (v3, v4, v5) (v6, v7, v8) (k)).1 (crV (v0, v1, v2) (v3, v4, v5) (v6, v7, v8) (k)).2.1 (crV (v0, v1, v2) (v3, v4, v5) (v6, v7, v8) (k + 1)).1 (crV (v0, v1, v2) (v3, v4, v5) (v6, v7, v8) (k + 1)).2.1 w) := fun w => edgeFrom_any v0 v1 v2 v3 v4 v5 v6 v7 v8 k k0 (by omega) HD.out.1.1 HD.out.1.2.1 HD.out.1.2.2 HD.out.2.1 HD.out.2.2.1 HD.out.2.2.2 w
      have HCa : ∀ w : World, Calls Try.prog 35 #[mat v0 v1 v2 v3 v4 v5 v6 v7 v8, .int .i64 k] w (VecOut (crV (v0, v1, v2) (v3, v4, v5) (v6, v7, v8) (k)).1 (crV (v0, v1, v2) (v3, v4, v5) (v6, v7, v8) (k)).2.1 (crV (v0, v1, v2) (v3, v4, v5) (v6, v7, v8) (k)).2.2 w) := fun w => corner_any v0 v1 v2 v3 v4 v5 v6 v7 v8 k k0 (by omega) w
      have HCb : ∀ w : World, Calls Try.prog 35 #[mat v0 v1 v2 v3 v4 v5 v6 v7 v8, .int .i64 (k + 1)] w (VecOut (crV (v0, v1, v2) (v3, v4, v5) (v6, v7, v8) (k + 1)).1 (crV (v0, v1, v2) (v3, v4, v5) (v6, v7, v8) (k + 1)).2.1 (crV (v0, v1, v2) (v3, v4, v5) (v6, v7, v8) (k + 1)).2.2 w) := fun w => corner_any v0 v1 v2 v3 v4 v5 v6 v7 v8 (k + 1) (by omega) (by omega) w
      have HS : ∀ (b : Bool), leftP (crV (v0, v1, v2) (v3, v4, v5) (v6, v7, v8) (k)).1 (crV (v0, v1, v2) (v3, v4, v5) (v6, v7, v8) (k)).2.1 (crV (v0, v1, v2) (v3, v4, v5) (v6, v7, v8) (k + 1)).1 (crV (v0, v1, v2) (v3, v4, v5) (v6, v7, v8) (k + 1)).2.1 x y = b → (b = false → covT v0 v1 v3 v4 v6 v7 x y = false) ∧ (b = true → lkP v0 v1 v3 v4 v6 v7 x y (k + 1) = true) := fun b hb => ⟨fun h => lk_fail (k := k) k0 hlt (hb.trans h), fun h => lk_step (k := k) k0 hlt HK.out (hb.trans h)⟩
      generalize (crV (v0, v1, v2) (v3, v4, v5) (v6, v7, v8) (k)).1 = px at *
      generalize (crV (v0, v1, v2) (v3, v4, v5) (v6, v7, v8) (k)).2.1 = py at *
      generalize (crV (v0, v1, v2) (v3, v4, v5) (v6, v7, v8) (k)).2.2 = pz at *
      generalize (crV (v0, v1, v2) (v3, v4, v5) (v6, v7, v8) (k + 1)).1 = qx at *
      generalize (crV (v0, v1, v2) (v3, v4, v5) (v6, v7, v8) (k + 1)).2.1 = qy at *
      generalize (crV (v0, v1, v2) (v3, v4, v5) (v6, v7, v8) (k + 1)).2.2 = qz at *
      have dx_ : -200000 ≤ qx - px ∧ qx - px ≤ 200000 := by unfold inS at *; omega
      have dy_ : -200000 ≤ qy - py ∧ qy - py ≤ 200000 := by unfold inS at *; omega
      obtain ⟨s, es⟩ : ∃ s, s = sdP px py qx qy x y := ⟨_, rfl⟩
      have HFn : ∀ (d a g : Nat) (w : World) (h0 : w.cell? ⟨d, 0, none⟩ = some (.int .i64 (qx - px))) (h1 : w.cell? ⟨a, 0, none⟩ = some (.int .i64 px)) (h2 : w.cell? ⟨a, 1, none⟩ = some (.int .i64 py)) (h3 : w.cell? ⟨g, 0, none⟩ = some (.int .i64 (qy - py))), Calls Try.prog 65 #[.int .i64 x, .int .i64 y, .pointer (some ⟨d, 0, none⟩), .pointer (some ⟨a, 0, none⟩), .pointer (some ⟨g, 0, none⟩)] w (fun e w' => e = .returned (.int .i64 s) ∧ w = w') := fun d a g w h0 h1 h2 h3 => by rw [es]; exact edgeFn_any d a g px py (qx - px) (qy - py) x y HX.out.1 HX.out.2 bp0 bp1 dx_ dy_ w h0 h1 h2 h3
      have HS : ∀ (b : Bool), (decide (0 < s) || (decide (s = 0) && inclP px py qx qy)) = b → (b = false → covT v0 v1 v3 v4 v6 v7 x y = false) ∧ (b = true → lkP v0 v1 v3 v4 v6 v7 x y (k + 1) = true) := fun b hb => HS b (by unfold leftP; rw [← es]; exact hb)
      clear dx_ dy_ es bp0 bp1 bq0 bq1 hk
      have HE := Lib.hid HE
      have HCa := Lib.hid HCa
      have HCb := Lib.hid HCb
      have HS := Lib.hid HS
      have HFn := Lib.hid HFn
      have n1 : IntKind.i64.wrap (k + 1) = k + 1 := wrap_in (by omega)
      have c0 := (HT.box 0).c 0
      have c1 := (HT.box 0).c 1
      have c2 := (HT.box 0).c 2
      have c3 := (HT.box 0).c 3
      have c4 := (HT.box 0).c 4
      have c5 := (HT.box 0).c 5
      have c6 := (HT.box 0).c 6
      have c7 := (HT.box 0).c 7
      have c8 := (HT.box 0).c 8
      go_wp2_with fail
      refine (HE.out _).mono ?_
      rintro e w1 ⟨d, a, g, rfl, hb1, e0, e1, e2, e3⟩
      have HT := HT.later hb1
      clear hb1 c0 c1 c2 c3 c4 c5 c6 c7 c8
      go_wp2_with fail
      refine (HFn.out _ _ _ _ e0 e1 e2 e3).mono ?_
      rintro e w2 ⟨rfl, rfl⟩
      clear e0 e1 e2 e3 HFn HE
      rcases Int.lt_trichotomy s 0 with hs | hs | hs
      · have hs0 : decide (s < 0) = true := by simpa using hs
        have HF := Lib.hid ((HS.out false (by rw [decide_eq_false (by omega), decide_eq_false (by omega)]; rfl)).1 rfl)
        clear HS HCa HCb
        go_wp2_with fail
        go_quiet (fail)
        go_wp2_with fail
        go_ret
        exact ⟨retB HF.out.symm, HT.drewN _ |>.below⟩
      · subst hs
        have HC : ∀ W, Held w W [(w.heap.size, [.int .i64 v0, .int .i64 v1, .int .i64 v2, .int .i64 v3, .int .i64 v4, .int .i64 v5, .int .i64 v6, .int .i64 v7, .int .i64 v8])] → (W.cell? ⟨w.heap.size, 0, none⟩ = some (.int .i64 v0) ∧ W.cell? ⟨w.heap.size, 1, none⟩ = some (.int .i64 v1) ∧ W.cell? ⟨w.heap.size, 2, none⟩ = some (.int .i64 v2) ∧ W.cell? ⟨w.heap.size, 3, none⟩ = some (.int .i64 v3) ∧ W.cell? ⟨w.heap.size, 4, none⟩ = some (.int .i64 v4) ∧ W.cell? ⟨w.heap.size, 5, none⟩ = some (.int .i64 v5) ∧ W.cell? ⟨w.heap.size, 6, none⟩ = some (.int .i64 v6) ∧ W.cell? ⟨w.heap.size, 7, none⟩ = some (.int .i64 v7) ∧ W.cell? ⟨w.heap.size, 8, none⟩ = some (.int .i64 v8)) := fun W h => ⟨(h.box 0).c 0, (h.box 0).c 1, (h.box 0).c 2, (h.box 0).c 3, (h.box 0).c 4, (h.box 0).c 5, (h.box 0).c 6, (h.box 0).c 7, (h.box 0).c 8⟩
        rcases hi : inclP px py qx qy with _ | _
        all_goals
          go_wp2_with fail
          go_region_held3 (fun w' => w'.cell? ⟨w.heap.size, 0, none⟩ = some (.int .i64 v0) ∧ w'.cell? ⟨w.heap.size, 1, none⟩ = some (.int .i64 v1) ∧ w'.cell? ⟨w.heap.size, 2, none⟩ = some (.int .i64 v2) ∧ w'.cell? ⟨w.heap.size, 3, none⟩ = some (.int .i64 v3) ∧ w'.cell? ⟨w.heap.size, 4, none⟩ = some (.int .i64 v4) ∧ w'.cell? ⟨w.heap.size, 5, none⟩ = some (.int .i64 v5) ∧ w'.cell? ⟨w.heap.size, 6, none⟩ = some (.int .i64 v6) ∧ w'.cell? ⟨w.heap.size, 7, none⟩ = some (.int .i64 v7) ∧ w'.cell? ⟨w.heap.size, 8, none⟩ = some (.int .i64 v8))
            (first | (with_reducible exact HC _ HT) | (with_reducible exact HC _ HT.drew))
            (first | (go_at_call 35; refine (HCa.out _).mono ?_; rintro e w1 ⟨rfl, hb1⟩; (first | (have HT := HT.later hb1) | (have HT := HT.drew.later hb1))) | (go_at_call 35; refine (HCb.out _).mono ?_; rintro e w1 ⟨rfl, hb1⟩; (first | (have HT := HT.later hb1) | (have HT := HT.drew.later hb1))) | (go_at_call 34; refine (isInclusive_any _ _ _ _ _ _ _).mono ?_; rintro e w1 ⟨rfl, hb1⟩; rw [hi]; (first | (have HT := HT.later hb1) | (have HT := HT.drew.later hb1))))
        · have HF := Lib.hid ((HS.out false (by rw [hi]; rfl)).1 rfl)
          clear HS HCa HCb HC
          go_wp2_with fail
          go_ret
          exact ⟨retB HF.out.symm, HT.below⟩
        · have HF := Lib.hid ((HS.out true (by rw [hi]; rfl)).2 rfl)
          clear HS HCa HCb HC
          go_wp2_with fail
          go_roundw
          case rel => exact ⟨k + 1, by omega, by omega, rfl, HF.out, by first | exact HT | exact HT.drew⟩
          case measure => simp [intOf]; omega
      · have hs0 : decide (s < 0) = false := by rw [decide_eq_false_iff_not]; omega
        have hs1 : (s == 0) = false := by rw [beq_eq_false_iff_ne]; omega
        have HF := Lib.hid ((HS.out true (by rw [decide_eq_true hs]; rfl)).2 rfl)
        clear HS HCa HCb
        go_wp2_with fail
        go_quiet (fail)
        go_wp2_with fail
        go_roundw
        case rel => exact ⟨k + 1, by omega, by omega, rfl, HF.out, HT.drewN _⟩
        case measure => simp [intOf]; omega
    · have e : k = 3 := by omega
      subst e
      have HF := Lib.hid ((lk_all v0 v1 v3 v4 v6 v7 x y).symm.trans hk)
      clear hk HD HX
      go_wp2_with fail
      go_ret
      exact ⟨retB HF.out.symm, HT.below⟩
end Go.Proofs.Ytjjafbcfmijppaa
