/- Contracts of Covers: the model. -/
import Derived.Test.YtjjafbcfmijppaaProg
import Derived.Test.YtjjafbcfmijppaaInts
import Derived.Test.YtjjafbcfmijppaaVbox
import Derived.Test.YtjjafbcfmijppaaVec
import Derived.Test.YtjjafbcfmijppaaHeld
import Derived.Test.YtjjafbcfmijppaaArr
import Derived.Test.YtjjafbcfmijppaaTr
import Derived.Test.YtjjafbcfmijppaaMem
import Derived.Test.YtjjafbcfmijppaaFlat
import Derived.Test.YtjjafbcfmijppaaRowC
import Derived.Test.YtjjafbcfmijppaaPat
import Derived.Test.YtjjafbcfmijppaaCam
import Derived.Test.YtjjafbcfmijppaaCPrj
import Derived.Test.YtjjafbcfmijppaaTri
import Derived.Test.YtjjafbcfmijppaaTCl
import Derived.Test.YtjjafbcfmijppaaTEd
import Derived.Test.YtjjafbcfmijppaaTSd
import Derived.Test.YtjjafbcfmijppaaTAr
import Derived.Test.YtjjafbcfmijppaaTPu
import Derived.WalkKit
import Derived.WalkSpells
import Derived.WalkLawsBesides
import Derived.Lib.Hide
import Derived.Deep.RegionHeld3
import Derived.Deep.QuietTactic
import Derived.BigQuiet
import Derived.Handy
import Derived.Deep.DeepCutAuto
namespace Go.Proofs.Ytjjafbcfmijppaa
open Go.RowKit
theorem cov_or {a b c d e f x y n : Int} (en : n = arP a b c d e f) (hn : decide (n = 0) = false) (hx : (inC (-100000) 100000 x && inC (-100000) 100000 y) = true) :
    covP a b c d e f x y = covT (scr a) (scr b) (orI n (scr c) (scr e)) (orI n (scr d) (scr f)) (orI n (scr e) (scr c)) (orI n (scr f) (scr d)) x y := by
  unfold covP orI
  rw [← en, hn, hx]
  by_cases h : n < 0
  · simp only [if_pos h]; rfl
  · simp only [if_neg h]; rfl

set_option maxHeartbeats 8000000 in
theorem sCovers_any (a0 a1 a2 a3 a4 a5 a6 a7 a8 x y : Int) (w : World) :
    Calls Try.prog 21 #[mat a0 a1 a2 a3 a4 a5 a6 a7 a8, .int .i64 x, .int .i64 y] w (BOut (covP a0 a1 a3 a4 a6 a7 x y) w) := by
  obtain ⟨u0, e0_⟩ : ∃ u, u = scr a0 := ⟨_, rfl⟩
  obtain ⟨u1, e1_⟩ : ∃ u, u = scr a1 := ⟨_, rfl⟩
  obtain ⟨u2, e2_⟩ : ∃ u, u = cc a2 := ⟨_, rfl⟩
  obtain ⟨u3, e3_⟩ : ∃ u, u = scr a3 := ⟨_, rfl⟩
  obtain ⟨u4, e4_⟩ : ∃ u, u = scr a4 := ⟨_, rfl⟩
  obtain ⟨u5, e5_⟩ : ∃ u, u = cc a5 := ⟨_, rfl⟩
  obtain ⟨u6, e6_⟩ : ∃ u, u = scr a6 := ⟨_, rfl⟩
  obtain ⟨u7, e7_⟩ : ∃ u, u = scr a7 := ⟨_, rfl⟩
  obtain ⟨u8, e8_⟩ : ∃ u, u = cc a8 := ⟨_, rfl⟩
  have b0 : inS u0 := by rw [e0_]; exact scr_bd a0
  have b1 : inS u1 := by rw [e1_]; exact scr_bd a1
  have b3 : inS u3 := by rw [e3_]; exact scr_bd a3
  have b4 : inS u4 := by rw [e4_]; exact scr_bd a4
  have b6 : inS u6 := by rw [e6_]; exact scr_bd a6
  have b7 : inS u7 := by rw [e7_]; exact scr_bd a7
  obtain ⟨n, en⟩ : ∃ n, n = arP a0 a1 a3 a4 a6 a7 := ⟨_, rfl⟩
  have hid_ : arP u0 u1 u3 u4 u6 u7 = n := by rw [en, ar_in b0 b1 b3 b4 b6 b7]; unfold arP; rw [← e0_, ← e1_, ← e3_, ← e4_, ← e6_, ← e7_]
  have HCl : ∀ w : World, Calls Try.prog 38 #[mat a0 a1 a2 a3 a4 a5 a6 a7 a8] w (MatOut u0 u1 u2 u3 u4 u5 u6 u7 u8 w) := fun w => by rw [e0_, e1_, e2_, e3_, e4_, e5_, e6_, e7_, e8_]; exact l09P_any a0 a1 a2 a3 a4 a5 a6 a7 a8 w
  have HCf : ∀ w : World, Calls Try.prog 38 #[mat a0 a1 a2 a6 a7 a8 a3 a4 a5] w (MatOut u0 u1 u2 u6 u7 u8 u3 u4 u5 w) := fun w => by rw [e0_, e1_, e2_, e3_, e4_, e5_, e6_, e7_, e8_]; exact l09P_any a0 a1 a2 a6 a7 a8 a3 a4 a5 w
  have HAr : ∀ w : World, Calls Try.prog 17 #[mat a0 a1 a2 a3 a4 a5 a6 a7 a8] w (IntOut n w) := fun w => by rw [en]; exact sSignedArea2_any a0 a1 a2 a3 a4 a5 a6 a7 a8 w
  obtain ⟨pl, epl⟩ : ∃ b, b = (inC (-100000) 100000 x && inC (-100000) 100000 y) := ⟨_, rfl⟩
  have HPl : ∀ w : World, Calls Try.prog 42 #[.int .i64 x, .int .i64 y] w (fun e w' => e = .returned (.bool pl) ∧ w = w') := fun w => by rw [epl]; exact l09Place_any x y w
  have HCl := Lib.hid HCl
  have HCf := Lib.hid HCf
  have HAr := Lib.hid HAr
  have HPl := Lib.hid HPl
  have HT : Held w (w.alloc (.cells #[.int .i64 a0, .int .i64 a1, .int .i64 a2, .int .i64 a3, .int .i64 a4, .int .i64 a5, .int .i64 a6, .int .i64 a7, .int .i64 a8] 27)) [(w.heap.size, [.int .i64 a0, .int .i64 a1, .int .i64 a2, .int .i64 a3, .int .i64 a4, .int .i64 a5, .int .i64 a6, .int .i64 a7, .int .i64 a8])] := by
    have h := (Held.nil w).new #[.int .i64 a0, .int .i64 a1, .int .i64 a2, .int .i64 a3, .int .i64 a4, .int .i64 a5, .int .i64 a6, .int .i64 a7, .int .i64 a8] 27
    simpa only [World.size_alloc] using h
  by_cases hn : n = 0
  · have HZ := Lib.hid (show covP a0 a1 a3 a4 a6 a7 x y = false by unfold covP; rw [← en, hn]; rfl)
    clear en hid_ e0_ e1_ e2_ e3_ e4_ e5_ e6_ e7_ e8_ b0 b1 b3 b4 b6 b7 epl
    subst hn
    go_enter Try.func21, Try.ntmps21
    go_wp2_with fail
    refine (HAr.out _).mono ?_
    rintro e w1 ⟨rfl, hb1⟩
    have HT := HT.later hb1
    clear hb1
    go_wp2_with fail
    go_ret
    exact ⟨retB HZ.out.symm, HT.below⟩
  have hne : (n == 0) = false := by simpa using hn
  have hnd : decide (n = 0) = false := by simpa using hn
  rcases pl with _ | _
  · have HZ := Lib.hid (cov_out epl.symm : covP a0 a1 a3 a4 a6 a7 x y = false)
    clear en hid_ e0_ e1_ e2_ e3_ e4_ e5_ e6_ e7_ e8_ b0 b1 b3 b4 b6 b7 epl
    go_enter Try.func21, Try.ntmps21
    go_wp2_with fail
    refine (HAr.out _).mono ?_
    rintro e w1 ⟨rfl, hb1⟩
    have HT := HT.later hb1
    clear hb1
    go_wp2_with (go_at_call 42; refine (HPl.out _).mono ?_; rintro e w' ⟨rfl, rfl⟩)
    go_ret
    exact ⟨retB HZ.out.symm, HT.below⟩
  have HBB : covP a0 a1 a3 a4 a6 a7 x y = covT u0 u1 (orI n u3 u6) (orI n u4 u7) (orI n u6 u3) (orI n u7 u4) x y := by rw [cov_or en hnd epl.symm, ← e0_, ← e1_, ← e3_, ← e4_, ← e6_, ← e7_]
  have HBB := Lib.hid HBB
  have HX : inS x ∧ inS y := by
    have h := epl.symm
    rw [Bool.and_eq_true] at h
    exact ⟨(inC_inS x).1 h.1, (inC_inS y).1 h.2⟩
  clear en hid_ e0_ e1_ e2_ e3_ e4_ e5_ e6_ e7_ e8_ epl hnd
  by_cases hneg : n < 0
  · skip
    have HB := Lib.hid (show covP a0 a1 a3 a4 a6 a7 x y = covT u0 u1 u6 u7 u3 u4 x y by rw [HBB.out]; unfold orI; simp only [if_pos hneg])
    have HL0 : ∀ w : World, Calls Try.prog 43 #[vec u0 u1 u2, vec u6 u7 u8, .int .i64 x, .int .i64 y] w (BOut (leftP u0 u1 u6 u7 x y) w) := fun w => l09Left_any u0 u1 u2 u6 u7 u8 x y b0 b1 b6 b7 HX.1 HX.2 w
    have HL1 : ∀ w : World, Calls Try.prog 43 #[vec u6 u7 u8, vec u3 u4 u5, .int .i64 x, .int .i64 y] w (BOut (leftP u6 u7 u3 u4 x y) w) := fun w => l09Left_any u6 u7 u8 u3 u4 u5 x y b6 b7 b3 b4 HX.1 HX.2 w
    have HL2 : ∀ w : World, Calls Try.prog 43 #[vec u3 u4 u5, vec u0 u1 u2, .int .i64 x, .int .i64 y] w (BOut (leftP u3 u4 u0 u1 x y) w) := fun w => l09Left_any u3 u4 u5 u0 u1 u2 x y b3 b4 b0 b1 HX.1 HX.2 w
    have HL0 := Lib.hid HL0
    have HL1 := Lib.hid HL1
    have HL2 := Lib.hid HL2
    rcases hl0 : leftP u0 u1 u6 u7 x y with _ | _
    · skip
      go_enter Try.func21, Try.ntmps21
      go_wp2_with fail
      refine (HAr.out _).mono ?_
      rintro e w1 ⟨rfl, hb1⟩
      have hz1 := HT.size
      have HT := HT.later hb1
      have hz2 := (HT.box 0).lt
      clear hb1
      have c0 := (HT.box 0).c 0
      have c1 := (HT.box 0).c 1
      have c2 := (HT.box 0).c 2
      have c3 := (HT.box 0).c 3
      have c4 := (HT.box 0).c 4
      have c5 := (HT.box 0).c 5
      have c6 := (HT.box 0).c 6
      have c7 := (HT.box 0).c 7
      have c8 := (HT.box 0).c 8
      go_wp2_with (go_at_call 42; refine (HPl.out _).mono ?_; rintro e w' ⟨rfl, rfl⟩)
      refine (HCl.out _).mono ?_
      rintro e w2 ⟨rfl, hb2⟩
      have hz3 := hb2.size
      have HT := (HT.later hb2).new #[.int .i64 u0, .int .i64 u1, .int .i64 u2, .int .i64 u3, .int .i64 u4, .int .i64 u5, .int .i64 u6, .int .i64 u7, .int .i64 u8] 25
      clear hb2 c0 c1 c2 c3 c4 c5 c6 c7 c8
      go_upto_region 5 with fail
      generalize w2.alloc _ = W4 at HT ⊢
      generalize hk1 : w2.heap.size = k1 at HT hz3 ⊢
      clear hk1
      have c0 := (HT.box 1).c 0
      have c1 := (HT.box 1).c 1
      have c2 := (HT.box 1).c 2
      have c3 := (HT.box 1).c 3
      have c4 := (HT.box 1).c 4
      have c5 := (HT.box 1).c 5
      have c6 := (HT.box 1).c 6
      have c7 := (HT.box 1).c 7
      have c8 := (HT.box 1).c 8
      go_wp2_with fail
      refine (sFlipTriangle_any _ _ _ _ _ _ _ _ _ _).mono ?_
      rintro e w3 ⟨rfl, hb3⟩
      have HT := HT.later hb3
      clear hb3
      go_wp2_with fail
      refine (HCf.out _).mono ?_
      rintro e w4 ⟨rfl, hb4⟩
      have HT := HT.later hb4
      clear hb4 c0 c1 c2 c3 c4 c5 c6 c7 c8
      have c0 := (HT.box 0).c 0
      have c1 := (HT.box 0).c 1
      have c2 := (HT.box 0).c 2
      have c3 := (HT.box 0).c 3
      have c4 := (HT.box 0).c 4
      have c5 := (HT.box 0).c 5
      have c6 := (HT.box 0).c 6
      have c7 := (HT.box 0).c 7
      have c8 := (HT.box 0).c 8
      have f0 := (HT.box 0).f 0
      have f1 := (HT.box 0).f 1
      have f2 := (HT.box 0).f 2
      have f3 := (HT.box 0).f 3
      have f4 := (HT.box 0).f 4
      have f5 := (HT.box 0).f 5
      have f6 := (HT.box 0).f 6
      have f7 := (HT.box 0).f 7
      have f8 := (HT.box 0).f 8
      go_upto_region 7 with fail
      have HP := HT.put9 (by omega) (by simp <;> omega) (.int .i64 u0) (.int .i64 u1) (.int .i64 u2) (.int .i64 u6) (.int .i64 u7) (.int .i64 u8) (.int .i64 u3) (.int .i64 u4) (.int .i64 u5)
      clear HT c0 c1 c2 c3 c4 c5 c6 c7 c8 f0 f1 f2 f3 f4 f5 f6 f7 f8
      generalize (((((((((w4.setCell ⟨k1, 0, none⟩ (.int .i64 u0)).setCell ⟨k1, 1, none⟩ (.int .i64 u1)).setCell ⟨k1, 2, none⟩ (.int .i64 u2)).setCell ⟨k1, 3, none⟩ (.int .i64 u6)).setCell ⟨k1, 4, none⟩ (.int .i64 u7)).setCell ⟨k1, 5, none⟩ (.int .i64 u8)).setCell ⟨k1, 6, none⟩ (.int .i64 u3)).setCell ⟨k1, 7, none⟩ (.int .i64 u4)).setCell ⟨k1, 8, none⟩ (.int .i64 u5)) = W5 at HP ⊢
      have HT := HP
      clear HP
      have c0 := (HT.box 0).c 0
      have c1 := (HT.box 0).c 1
      have c2 := (HT.box 0).c 2
      have c3 := (HT.box 0).c 3
      have c4 := (HT.box 0).c 4
      have c5 := (HT.box 0).c 5
      have c6 := (HT.box 0).c 6
      have c7 := (HT.box 0).c 7
      have c8 := (HT.box 0).c 8
      go_wp2_with fail
      refine (HL0.out _).mono ?_
      rintro e w10 ⟨rfl, hb10⟩
      rw [hl0]
      have HT := HT.later hb10
      clear hb10 c0 c1 c2 c3 c4 c5 c6 c7 c8
      go_wp2_with fail
      go_ret
      exact ⟨retB (by rw [HB.out]; unfold covT; rw [hl0] <;> rfl), HT.below⟩
    · rcases hl1 : leftP u6 u7 u3 u4 x y with _ | _
      · skip
        go_enter Try.func21, Try.ntmps21
        go_wp2_with fail
        refine (HAr.out _).mono ?_
        rintro e w1 ⟨rfl, hb1⟩
        have hz1 := HT.size
        have HT := HT.later hb1
        have hz2 := (HT.box 0).lt
        clear hb1
        have c0 := (HT.box 0).c 0
        have c1 := (HT.box 0).c 1
        have c2 := (HT.box 0).c 2
        have c3 := (HT.box 0).c 3
        have c4 := (HT.box 0).c 4
        have c5 := (HT.box 0).c 5
        have c6 := (HT.box 0).c 6
        have c7 := (HT.box 0).c 7
        have c8 := (HT.box 0).c 8
        go_wp2_with (go_at_call 42; refine (HPl.out _).mono ?_; rintro e w' ⟨rfl, rfl⟩)
        refine (HCl.out _).mono ?_
        rintro e w2 ⟨rfl, hb2⟩
        have hz3 := hb2.size
        have HT := (HT.later hb2).new #[.int .i64 u0, .int .i64 u1, .int .i64 u2, .int .i64 u3, .int .i64 u4, .int .i64 u5, .int .i64 u6, .int .i64 u7, .int .i64 u8] 25
        clear hb2 c0 c1 c2 c3 c4 c5 c6 c7 c8
        go_upto_region 5 with fail
        generalize w2.alloc _ = W4 at HT ⊢
        generalize hk1 : w2.heap.size = k1 at HT hz3 ⊢
        clear hk1
        have c0 := (HT.box 1).c 0
        have c1 := (HT.box 1).c 1
        have c2 := (HT.box 1).c 2
        have c3 := (HT.box 1).c 3
        have c4 := (HT.box 1).c 4
        have c5 := (HT.box 1).c 5
        have c6 := (HT.box 1).c 6
        have c7 := (HT.box 1).c 7
        have c8 := (HT.box 1).c 8
        go_wp2_with fail
        refine (sFlipTriangle_any _ _ _ _ _ _ _ _ _ _).mono ?_
        rintro e w3 ⟨rfl, hb3⟩
        have HT := HT.later hb3
        clear hb3
        go_wp2_with fail
        refine (HCf.out _).mono ?_
        rintro e w4 ⟨rfl, hb4⟩
        have HT := HT.later hb4
        clear hb4 c0 c1 c2 c3 c4 c5 c6 c7 c8
        have c0 := (HT.box 0).c 0
        have c1 := (HT.box 0).c 1
        have c2 := (HT.box 0).c 2
        have c3 := (HT.box 0).c 3
        have c4 := (HT.box 0).c 4
        have c5 := (HT.box 0).c 5
        have c6 := (HT.box 0).c 6
        have c7 := (HT.box 0).c 7
        have c8 := (HT.box 0).c 8
        have f0 := (HT.box 0).f 0
        have f1 := (HT.box 0).f 1
        have f2 := (HT.box 0).f 2
        have f3 := (HT.box 0).f 3
        have f4 := (HT.box 0).f 4
        have f5 := (HT.box 0).f 5
        have f6 := (HT.box 0).f 6
        have f7 := (HT.box 0).f 7
        have f8 := (HT.box 0).f 8
        go_upto_region 7 with fail
        have HP := HT.put9 (by omega) (by simp <;> omega) (.int .i64 u0) (.int .i64 u1) (.int .i64 u2) (.int .i64 u6) (.int .i64 u7) (.int .i64 u8) (.int .i64 u3) (.int .i64 u4) (.int .i64 u5)
        clear HT c0 c1 c2 c3 c4 c5 c6 c7 c8 f0 f1 f2 f3 f4 f5 f6 f7 f8
        generalize (((((((((w4.setCell ⟨k1, 0, none⟩ (.int .i64 u0)).setCell ⟨k1, 1, none⟩ (.int .i64 u1)).setCell ⟨k1, 2, none⟩ (.int .i64 u2)).setCell ⟨k1, 3, none⟩ (.int .i64 u6)).setCell ⟨k1, 4, none⟩ (.int .i64 u7)).setCell ⟨k1, 5, none⟩ (.int .i64 u8)).setCell ⟨k1, 6, none⟩ (.int .i64 u3)).setCell ⟨k1, 7, none⟩ (.int .i64 u4)).setCell ⟨k1, 8, none⟩ (.int .i64 u5)) = W5 at HP ⊢
        have HT := HP
        clear HP
        have c0 := (HT.box 0).c 0
        have c1 := (HT.box 0).c 1
        have c2 := (HT.box 0).c 2
        have c3 := (HT.box 0).c 3
        have c4 := (HT.box 0).c 4
        have c5 := (HT.box 0).c 5
        have c6 := (HT.box 0).c 6
        have c7 := (HT.box 0).c 7
        have c8 := (HT.box 0).c 8
        go_wp2_with fail
        refine (HL0.out _).mono ?_
        rintro e w10 ⟨rfl, hb10⟩
        rw [hl0]
        have HT := HT.later hb10
        clear hb10 c0 c1 c2 c3 c4 c5 c6 c7 c8
        have c0 := (HT.box 0).c 0
        have c1 := (HT.box 0).c 1
        have c2 := (HT.box 0).c 2
        have c3 := (HT.box 0).c 3
        have c4 := (HT.box 0).c 4
        have c5 := (HT.box 0).c 5
        have c6 := (HT.box 0).c 6
        have c7 := (HT.box 0).c 7
        have c8 := (HT.box 0).c 8
        go_wp2_with fail
        refine (HL1.out _).mono ?_
        rintro e w11 ⟨rfl, hb11⟩
        rw [hl1]
        have HT := HT.later hb11
        clear hb11 c0 c1 c2 c3 c4 c5 c6 c7 c8
        go_wp2_with fail
        go_ret
        exact ⟨retB (by rw [HB.out]; unfold covT; rw [hl0, hl1] <;> rfl), HT.below⟩
      · rcases hl2 : leftP u3 u4 u0 u1 x y with _ | _
        all_goals
          go_enter Try.func21, Try.ntmps21
          go_wp2_with fail
          refine (HAr.out _).mono ?_
          rintro e w1 ⟨rfl, hb1⟩
          have hz1 := HT.size
          have HT := HT.later hb1
          have hz2 := (HT.box 0).lt
          clear hb1
          have c0 := (HT.box 0).c 0
          have c1 := (HT.box 0).c 1
          have c2 := (HT.box 0).c 2
          have c3 := (HT.box 0).c 3
          have c4 := (HT.box 0).c 4
          have c5 := (HT.box 0).c 5
          have c6 := (HT.box 0).c 6
          have c7 := (HT.box 0).c 7
          have c8 := (HT.box 0).c 8
          go_wp2_with (go_at_call 42; refine (HPl.out _).mono ?_; rintro e w' ⟨rfl, rfl⟩)
          refine (HCl.out _).mono ?_
          rintro e w2 ⟨rfl, hb2⟩
          have hz3 := hb2.size
          have HT := (HT.later hb2).new #[.int .i64 u0, .int .i64 u1, .int .i64 u2, .int .i64 u3, .int .i64 u4, .int .i64 u5, .int .i64 u6, .int .i64 u7, .int .i64 u8] 25
          clear hb2 c0 c1 c2 c3 c4 c5 c6 c7 c8
          go_upto_region 5 with fail
          generalize w2.alloc _ = W4 at HT ⊢
          generalize hk1 : w2.heap.size = k1 at HT hz3 ⊢
          clear hk1
          have c0 := (HT.box 1).c 0
          have c1 := (HT.box 1).c 1
          have c2 := (HT.box 1).c 2
          have c3 := (HT.box 1).c 3
          have c4 := (HT.box 1).c 4
          have c5 := (HT.box 1).c 5
          have c6 := (HT.box 1).c 6
          have c7 := (HT.box 1).c 7
          have c8 := (HT.box 1).c 8
          go_wp2_with fail
          refine (sFlipTriangle_any _ _ _ _ _ _ _ _ _ _).mono ?_
          rintro e w3 ⟨rfl, hb3⟩
          have HT := HT.later hb3
          clear hb3
          go_wp2_with fail
          refine (HCf.out _).mono ?_
          rintro e w4 ⟨rfl, hb4⟩
          have HT := HT.later hb4
          clear hb4 c0 c1 c2 c3 c4 c5 c6 c7 c8
          have c0 := (HT.box 0).c 0
          have c1 := (HT.box 0).c 1
          have c2 := (HT.box 0).c 2
          have c3 := (HT.box 0).c 3
          have c4 := (HT.box 0).c 4
          have c5 := (HT.box 0).c 5
          have c6 := (HT.box 0).c 6
          have c7 := (HT.box 0).c 7
          have c8 := (HT.box 0).c 8
          have f0 := (HT.box 0).f 0
          have f1 := (HT.box 0).f 1
          have f2 := (HT.box 0).f 2
          have f3 := (HT.box 0).f 3
          have f4 := (HT.box 0).f 4
          have f5 := (HT.box 0).f 5
          have f6 := (HT.box 0).f 6
          have f7 := (HT.box 0).f 7
          have f8 := (HT.box 0).f 8
          go_upto_region 7 with fail
          have HP := HT.put9 (by omega) (by simp <;> omega) (.int .i64 u0) (.int .i64 u1) (.int .i64 u2) (.int .i64 u6) (.int .i64 u7) (.int .i64 u8) (.int .i64 u3) (.int .i64 u4) (.int .i64 u5)
          clear HT c0 c1 c2 c3 c4 c5 c6 c7 c8 f0 f1 f2 f3 f4 f5 f6 f7 f8
          generalize (((((((((w4.setCell ⟨k1, 0, none⟩ (.int .i64 u0)).setCell ⟨k1, 1, none⟩ (.int .i64 u1)).setCell ⟨k1, 2, none⟩ (.int .i64 u2)).setCell ⟨k1, 3, none⟩ (.int .i64 u6)).setCell ⟨k1, 4, none⟩ (.int .i64 u7)).setCell ⟨k1, 5, none⟩ (.int .i64 u8)).setCell ⟨k1, 6, none⟩ (.int .i64 u3)).setCell ⟨k1, 7, none⟩ (.int .i64 u4)).setCell ⟨k1, 8, none⟩ (.int .i64 u5)) = W5 at HP ⊢
          have HT := HP
          clear HP
          have c0 := (HT.box 0).c 0
          have c1 := (HT.box 0).c 1
          have c2 := (HT.box 0).c 2
          have c3 := (HT.box 0).c 3
          have c4 := (HT.box 0).c 4
          have c5 := (HT.box 0).c 5
          have c6 := (HT.box 0).c 6
          have c7 := (HT.box 0).c 7
          have c8 := (HT.box 0).c 8
          go_wp2_with fail
          refine (HL0.out _).mono ?_
          rintro e w10 ⟨rfl, hb10⟩
          rw [hl0]
          have HT := HT.later hb10
          clear hb10 c0 c1 c2 c3 c4 c5 c6 c7 c8
          have c0 := (HT.box 0).c 0
          have c1 := (HT.box 0).c 1
          have c2 := (HT.box 0).c 2
          have c3 := (HT.box 0).c 3
          have c4 := (HT.box 0).c 4
          have c5 := (HT.box 0).c 5
          have c6 := (HT.box 0).c 6
          have c7 := (HT.box 0).c 7
          have c8 := (HT.box 0).c 8
          go_wp2_with fail
          refine (HL1.out _).mono ?_
          rintro e w11 ⟨rfl, hb11⟩
          rw [hl1]
          have HT := HT.later hb11
          clear hb11 c0 c1 c2 c3 c4 c5 c6 c7 c8
          have c0 := (HT.box 0).c 0
          have c1 := (HT.box 0).c 1
          have c2 := (HT.box 0).c 2
          have c3 := (HT.box 0).c 3
          have c4 := (HT.box 0).c 4
          have c5 := (HT.box 0).c 5
          have c6 := (HT.box 0).c 6
          have c7 := (HT.box 0).c 7
          have c8 := (HT.box 0).c 8
          go_wp2_with fail
          refine (HL2.out _).mono ?_
          rintro e w12 ⟨rfl, hb12⟩
          rw [hl2]
          have HT := HT.later hb12
          clear hb12 c0 c1 c2 c3 c4 c5 c6 c7 c8
          go_wp2_with fail
          go_ret
          exact ⟨retB (by rw [HB.out]; unfold covT; rw [hl0, hl1, hl2] <;> rfl), HT.below⟩
  · skip
    have HB := Lib.hid (show covP a0 a1 a3 a4 a6 a7 x y = covT u0 u1 u3 u4 u6 u7 x y by rw [HBB.out]; unfold orI; simp only [if_neg hneg])
    have HL0 : ∀ w : World, Calls Try.prog 43 #[vec u0 u1 u2, vec u3 u4 u5, .int .i64 x, .int .i64 y] w (BOut (leftP u0 u1 u3 u4 x y) w) := fun w => l09Left_any u0 u1 u2 u3 u4 u5 x y b0 b1 b3 b4 HX.1 HX.2 w
    have HL1 : ∀ w : World, Calls Try.prog 43 #[vec u3 u4 u5, vec u6 u7 u8, .int .i64 x, .int .i64 y] w (BOut (leftP u3 u4 u6 u7 x y) w) := fun w => l09Left_any u3 u4 u5 u6 u7 u8 x y b3 b4 b6 b7 HX.1 HX.2 w
    have HL2 : ∀ w : World, Calls Try.prog 43 #[vec u6 u7 u8, vec u0 u1 u2, .int .i64 x, .int .i64 y] w (BOut (leftP u6 u7 u0 u1 x y) w) := fun w => l09Left_any u6 u7 u8 u0 u1 u2 x y b6 b7 b0 b1 HX.1 HX.2 w
    have HL0 := Lib.hid HL0
    have HL1 := Lib.hid HL1
    have HL2 := Lib.hid HL2
    have hneg : 0 ≤ n := by omega
    rcases hl0 : leftP u0 u1 u3 u4 x y with _ | _
    · skip
      go_enter Try.func21, Try.ntmps21
      go_wp2_with fail
      refine (HAr.out _).mono ?_
      rintro e w1 ⟨rfl, hb1⟩
      have hz1 := HT.size
      have HT := HT.later hb1
      have hz2 := (HT.box 0).lt
      clear hb1
      have c0 := (HT.box 0).c 0
      have c1 := (HT.box 0).c 1
      have c2 := (HT.box 0).c 2
      have c3 := (HT.box 0).c 3
      have c4 := (HT.box 0).c 4
      have c5 := (HT.box 0).c 5
      have c6 := (HT.box 0).c 6
      have c7 := (HT.box 0).c 7
      have c8 := (HT.box 0).c 8
      go_wp2_with (go_at_call 42; refine (HPl.out _).mono ?_; rintro e w' ⟨rfl, rfl⟩)
      refine (HCl.out _).mono ?_
      rintro e w2 ⟨rfl, hb2⟩
      have hz3 := hb2.size
      have HT := (HT.later hb2).new #[.int .i64 u0, .int .i64 u1, .int .i64 u2, .int .i64 u3, .int .i64 u4, .int .i64 u5, .int .i64 u6, .int .i64 u7, .int .i64 u8] 25
      clear hb2 c0 c1 c2 c3 c4 c5 c6 c7 c8
      go_upto_region 5 with fail
      generalize w2.alloc _ = W4 at HT ⊢
      generalize hk1 : w2.heap.size = k1 at HT hz3 ⊢
      clear hk1
      have c0 := (HT.box 0).c 0
      have c1 := (HT.box 0).c 1
      have c2 := (HT.box 0).c 2
      have c3 := (HT.box 0).c 3
      have c4 := (HT.box 0).c 4
      have c5 := (HT.box 0).c 5
      have c6 := (HT.box 0).c 6
      have c7 := (HT.box 0).c 7
      have c8 := (HT.box 0).c 8
      go_wp2_with fail
      refine (HL0.out _).mono ?_
      rintro e w10 ⟨rfl, hb10⟩
      rw [hl0]
      have HT := HT.later hb10
      clear hb10 c0 c1 c2 c3 c4 c5 c6 c7 c8
      go_wp2_with fail
      go_ret
      exact ⟨retB (by rw [HB.out]; unfold covT; rw [hl0] <;> rfl), HT.below⟩
    · rcases hl1 : leftP u3 u4 u6 u7 x y with _ | _
      · skip
        go_enter Try.func21, Try.ntmps21
        go_wp2_with fail
        refine (HAr.out _).mono ?_
        rintro e w1 ⟨rfl, hb1⟩
        have hz1 := HT.size
        have HT := HT.later hb1
        have hz2 := (HT.box 0).lt
        clear hb1
        have c0 := (HT.box 0).c 0
        have c1 := (HT.box 0).c 1
        have c2 := (HT.box 0).c 2
        have c3 := (HT.box 0).c 3
        have c4 := (HT.box 0).c 4
        have c5 := (HT.box 0).c 5
        have c6 := (HT.box 0).c 6
        have c7 := (HT.box 0).c 7
        have c8 := (HT.box 0).c 8
        go_wp2_with (go_at_call 42; refine (HPl.out _).mono ?_; rintro e w' ⟨rfl, rfl⟩)
        refine (HCl.out _).mono ?_
        rintro e w2 ⟨rfl, hb2⟩
        have hz3 := hb2.size
        have HT := (HT.later hb2).new #[.int .i64 u0, .int .i64 u1, .int .i64 u2, .int .i64 u3, .int .i64 u4, .int .i64 u5, .int .i64 u6, .int .i64 u7, .int .i64 u8] 25
        clear hb2 c0 c1 c2 c3 c4 c5 c6 c7 c8
        go_upto_region 5 with fail
        generalize w2.alloc _ = W4 at HT ⊢
        generalize hk1 : w2.heap.size = k1 at HT hz3 ⊢
        clear hk1
        have c0 := (HT.box 0).c 0
        have c1 := (HT.box 0).c 1
        have c2 := (HT.box 0).c 2
        have c3 := (HT.box 0).c 3
        have c4 := (HT.box 0).c 4
        have c5 := (HT.box 0).c 5
        have c6 := (HT.box 0).c 6
        have c7 := (HT.box 0).c 7
        have c8 := (HT.box 0).c 8
        go_wp2_with fail
        refine (HL0.out _).mono ?_
        rintro e w10 ⟨rfl, hb10⟩
        rw [hl0]
        have HT := HT.later hb10
        clear hb10 c0 c1 c2 c3 c4 c5 c6 c7 c8
        have c0 := (HT.box 0).c 0
        have c1 := (HT.box 0).c 1
        have c2 := (HT.box 0).c 2
        have c3 := (HT.box 0).c 3
        have c4 := (HT.box 0).c 4
        have c5 := (HT.box 0).c 5
        have c6 := (HT.box 0).c 6
        have c7 := (HT.box 0).c 7
        have c8 := (HT.box 0).c 8
        go_wp2_with fail
        refine (HL1.out _).mono ?_
        rintro e w11 ⟨rfl, hb11⟩
        rw [hl1]
        have HT := HT.later hb11
        clear hb11 c0 c1 c2 c3 c4 c5 c6 c7 c8
        go_wp2_with fail
        go_ret
        exact ⟨retB (by rw [HB.out]; unfold covT; rw [hl0, hl1] <;> rfl), HT.below⟩
      · rcases hl2 : leftP u6 u7 u0 u1 x y with _ | _
        all_goals
          go_enter Try.func21, Try.ntmps21
          go_wp2_with fail
          refine (HAr.out _).mono ?_
          rintro e w1 ⟨rfl, hb1⟩
          have hz1 := HT.size
          have HT := HT.later hb1
          have hz2 := (HT.box 0).lt
          clear hb1
          have c0 := (HT.box 0).c 0
          have c1 := (HT.box 0).c 1
          have c2 := (HT.box 0).c 2
          have c3 := (HT.box 0).c 3
          have c4 := (HT.box 0).c 4
          have c5 := (HT.box 0).c 5
          have c6 := (HT.box 0).c 6
          have c7 := (HT.box 0).c 7
          have c8 := (HT.box 0).c 8
          go_wp2_with (go_at_call 42; refine (HPl.out _).mono ?_; rintro e w' ⟨rfl, rfl⟩)
          refine (HCl.out _).mono ?_
          rintro e w2 ⟨rfl, hb2⟩
          have hz3 := hb2.size
          have HT := (HT.later hb2).new #[.int .i64 u0, .int .i64 u1, .int .i64 u2, .int .i64 u3, .int .i64 u4, .int .i64 u5, .int .i64 u6, .int .i64 u7, .int .i64 u8] 25
          clear hb2 c0 c1 c2 c3 c4 c5 c6 c7 c8
          go_upto_region 5 with fail
          generalize w2.alloc _ = W4 at HT ⊢
          generalize hk1 : w2.heap.size = k1 at HT hz3 ⊢
          clear hk1
          have c0 := (HT.box 0).c 0
          have c1 := (HT.box 0).c 1
          have c2 := (HT.box 0).c 2
          have c3 := (HT.box 0).c 3
          have c4 := (HT.box 0).c 4
          have c5 := (HT.box 0).c 5
          have c6 := (HT.box 0).c 6
          have c7 := (HT.box 0).c 7
          have c8 := (HT.box 0).c 8
          go_wp2_with fail
          refine (HL0.out _).mono ?_
          rintro e w10 ⟨rfl, hb10⟩
          rw [hl0]
          have HT := HT.later hb10
          clear hb10 c0 c1 c2 c3 c4 c5 c6 c7 c8
          have c0 := (HT.box 0).c 0
          have c1 := (HT.box 0).c 1
          have c2 := (HT.box 0).c 2
          have c3 := (HT.box 0).c 3
          have c4 := (HT.box 0).c 4
          have c5 := (HT.box 0).c 5
          have c6 := (HT.box 0).c 6
          have c7 := (HT.box 0).c 7
          have c8 := (HT.box 0).c 8
          go_wp2_with fail
          refine (HL1.out _).mono ?_
          rintro e w11 ⟨rfl, hb11⟩
          rw [hl1]
          have HT := HT.later hb11
          clear hb11 c0 c1 c2 c3 c4 c5 c6 c7 c8
          have c0 := (HT.box 0).c 0
          have c1 := (HT.box 0).c 1
          have c2 := (HT.box 0).c 2
          have c3 := (HT.box 0).c 3
          have c4 := (HT.box 0).c 4
          have c5 := (HT.box 0).c 5
          have c6 := (HT.box 0).c 6
          have c7 := (HT.box 0).c 7
          have c8 := (HT.box 0).c 8
          go_wp2_with fail
          refine (HL2.out _).mono ?_
          rintro e w12 ⟨rfl, hb12⟩
          rw [hl2]
          have HT := HT.later hb12
          clear hb12 c0 c1 c2 c3 c4 c5 c6 c7 c8
          go_wp2_with fail
          go_ret
          exact ⟨retB (by rw [HB.out]; unfold covT; rw [hl0, hl1, hl2] <;> rfl), HT.below⟩
end Go.Proofs.Ytjjafbcfmijppaa
