/- Contracts of DepthAt: the program. -/
import Derived.Test.YtjjafbcfmijppaaProg
import Derived.Test.YtjjafbcfmijppaaInts
import Derived.Test.YtjjafbcfmijppaaVbox
import Derived.Test.YtjjafbcfmijppaaVec
import Derived.Test.YtjjafbcfmijppaaHeld
import Derived.Test.YtjjafbcfmijppaaArr
import Derived.Test.YtjjafbcfmijppaaTr
import Derived.Test.YtjjafbcfmijppaaMem
import Derived.Test.YtjjafbcfmijppaaFlat
import Derived.Test.YtjjafbcfmijppaaRowC
import Derived.Test.YtjjafbcfmijppaaPat
import Derived.Test.YtjjafbcfmijppaaCam
import Derived.Test.YtjjafbcfmijppaaCPrj
import Derived.Test.YtjjafbcfmijppaaTri
import Derived.Test.YtjjafbcfmijppaaTCl
import Derived.Test.YtjjafbcfmijppaaTEd
import Derived.Test.YtjjafbcfmijppaaTSd
import Derived.Test.YtjjafbcfmijppaaTAr
import Derived.Test.YtjjafbcfmijppaaTPu
import Derived.Test.YtjjafbcfmijppaaTCo
import Derived.Test.YtjjafbcfmijppaaTDs
import Derived.WalkKit
import Derived.WalkSpells
import Derived.WalkLawsBesides
import Derived.Lib.Hide
import Derived.Deep.RegionHeld3
import Derived.Deep.QuietTactic
import Derived.BigQuiet
import Derived.Handy
import Derived.Deep.DeepCutAuto
namespace Go.Proofs.Ytjjafbcfmijppaa
open Go.RowKit

theorem dep_or {a b c d e f g h i x y n : Int} (en : n = arP a b d e g h) (hc : covP a b d e g h x y = true) :
    depP a b c d e f g h i x y = fdivP (cc c * sdP (orI n (scr d) (scr g)) (orI n (scr e) (scr h)) (orI n (scr g) (scr d)) (orI n (scr h) (scr e)) x y + orI n (cc f) (cc i) * sdP (orI n (scr g) (scr d)) (orI n (scr h) (scr e)) (scr a) (scr b) x y + orI n (cc i) (cc f) * sdP (scr a) (scr b) (orI n (scr d) (scr g)) (orI n (scr e) (scr h)) x y) (absP n) := by
  have hy : covP (scr a) (scr b) (scr d) (scr e) (scr g) (scr h) x y = true := by
    rw [← hc]
    unfold covP arP
    simp only [scr_scr]
  have k := (cov_yes ⟨scr_bd a, scr_bd b⟩ ⟨scr_bd d, scr_bd e⟩ ⟨scr_bd g, scr_bd h⟩ hy).2
  unfold depP
  rw [← en]
  have en' : n = sdP (scr a) (scr b) (scr d) (scr e) (scr g) (scr h) := en
  rw [← en'] at k
  unfold orI
  have p : ∀ {s : Int}, 0 ≤ s → absP s = s := fun h => if_neg (by omega)
  have q : ∀ {s : Int}, s ≤ 0 → absP s = -s := fun h => by unfold absP; split <;> omega
  rcases k with ⟨k0, k1, k2, k3⟩ | ⟨k0, k1, k2, k3⟩
  · simp only [if_neg (show ¬ n < 0 by omega)]
    rw [p k1, p k2, p k3]
  · simp only [if_pos k0]
    rw [q k1, q k2, q k3, sd_anti (scr d) (scr e) (scr g) (scr h), sd_anti (scr a) (scr b) (scr d) (scr e), sd_anti (scr g) (scr h) (scr a) (scr b)]
    congr 1
    omega

set_option maxHeartbeats 8000000 in
theorem depthAt_any (a0 a1 a2 a3 a4 a5 a6 a7 a8 x y : Int) (w : World) :
    Calls Try.prog 14 #[mat a0 a1 a2 a3 a4 a5 a6 a7 a8, .int .i64 x, .int .i64 y] w (DpOut (covP a0 a1 a3 a4 a6 a7 x y) (depP a0 a1 a2 a3 a4 a5 a6 a7 a8 x y) w) := by
  obtain ⟨cv, ecv⟩ : ∃ b, b = covP a0 a1 a3 a4 a6 a7 x y := ⟨_, rfl⟩
  have HCv : ∀ w : World, Calls Try.prog 12 #[mat a0 a1 a2 a3 a4 a5 a6 a7 a8, .int .i64 x, .int .i64 y] w (BOut cv w) := fun w => by rw [ecv]; exact covers_any a0 a1 a2 a3 a4 a5 a6 a7 a8 x y w
  have HCv := Lib.hid HCv
  have HT : Held w (w.alloc (.cells #[.int .i64 a0, .int .i64 a1, .int .i64 a2, .int .i64 a3, .int .i64 a4, .int .i64 a5, .int .i64 a6, .int .i64 a7, .int .i64 a8] 27)) [(w.heap.size, [.int .i64 a0, .int .i64 a1, .int .i64 a2, .int .i64 a3, .int .i64 a4, .int .i64 a5, .int .i64 a6, .int .i64 a7, .int .i64 a8])] := by
    have h := (Held.nil w).new #[.int .i64 a0, .int .i64 a1, .int .i64 a2, .int .i64 a3, .int .i64 a4, .int .i64 a5, .int .i64 a6, .int .i64 a7, .int .i64 a8] 27
    simpa only [World.size_alloc] using h
  rcases cv with _ | _
  · have HZ := Lib.hid ecv.symm
    clear ecv
    go_enter Try.func14, Try.ntmps14
    go_wp2_with fail
    refine (HCv.out _).mono ?_
    rintro e w1 ⟨rfl, hb1⟩
    have HT := HT.later hb1
    go_wp2_with fail
    exact bodyPost_ret (v := .tuple #[.int .i64 0, .bool false]) (by simp [results, Try.results14, go_sem]) rfl ⟨ret_dn HZ.out, HT.below⟩
  have HY := Lib.hid ecv.symm
  have HX : inS x ∧ inS y := by
    have h := ecv.symm
    unfold covP at h
    simp only [Bool.and_eq_true, inC_inS] at h
    exact h.2.1
  obtain ⟨u0, e0_⟩ : ∃ u, u = scr a0 := ⟨_, rfl⟩
  obtain ⟨u1, e1_⟩ : ∃ u, u = scr a1 := ⟨_, rfl⟩
  obtain ⟨u2, e2_⟩ : ∃ u, u = cc a2 := ⟨_, rfl⟩
  obtain ⟨u3, e3_⟩ : ∃ u, u = scr a3 := ⟨_, rfl⟩
  obtain ⟨u4, e4_⟩ : ∃ u, u = scr a4 := ⟨_, rfl⟩
  obtain ⟨u5, e5_⟩ : ∃ u, u = cc a5 := ⟨_, rfl⟩
  obtain ⟨u6, e6_⟩ : ∃ u, u = scr a6 := ⟨_, rfl⟩
  obtain ⟨u7, e7_⟩ : ∃ u, u = scr a7 := ⟨_, rfl⟩
  obtain ⟨u8, e8_⟩ : ∃ u, u = cc a8 := ⟨_, rfl⟩
  have b0 : inS u0 := by rw [e0_]; exact scr_bd a0
  have b1 : inS u1 := by rw [e1_]; exact scr_bd a1
  have b3 : inS u3 := by rw [e3_]; exact scr_bd a3
  have b4 : inS u4 := by rw [e4_]; exact scr_bd a4
  have b6 : inS u6 := by rw [e6_]; exact scr_bd a6
  have b7 : inS u7 := by rw [e7_]; exact scr_bd a7
  obtain ⟨n, en⟩ : ∃ n, n = arP a0 a1 a3 a4 a6 a7 := ⟨_, rfl⟩
  have hid_ : arP u0 u1 u3 u4 u6 u7 = n := by rw [en, ar_in b0 b1 b3 b4 b6 b7]; unfold arP; rw [← e0_, ← e1_, ← e3_, ← e4_, ← e6_, ← e7_]
  have hn0 : n ≠ 0 := by
    have h := ecv.symm
    unfold covP at h
    rw [← en] at h
    simp only [Bool.and_eq_true, Bool.not_eq_true', decide_eq_false_iff_not] at h
    exact h.1
  have bn := ar_bd a0 a1 a3 a4 a6 a7
  rw [← en] at bn
  have HCl : ∀ w : World, Calls Try.prog 31 #[mat a0 a1 a2 a3 a4 a5 a6 a7 a8] w (MatOut u0 u1 u2 u3 u4 u5 u6 u7 u8 w) := fun w => by rw [e0_, e1_, e2_, e3_, e4_, e5_, e6_, e7_, e8_]; exact tclamped_any a0 a1 a2 a3 a4 a5 a6 a7 a8 w
  obtain ⟨v0, g0_⟩ : ∃ v, v = u0 := ⟨_, rfl⟩
  obtain ⟨v1, g1_⟩ : ∃ v, v = u1 := ⟨_, rfl⟩
  obtain ⟨v2, g2_⟩ : ∃ v, v = u2 := ⟨_, rfl⟩
  obtain ⟨v3, g3_⟩ : ∃ v, v = orI n u3 u6 := ⟨_, rfl⟩
  obtain ⟨v4, g4_⟩ : ∃ v, v = orI n u4 u7 := ⟨_, rfl⟩
  obtain ⟨v5, g5_⟩ : ∃ v, v = orI n u5 u8 := ⟨_, rfl⟩
  obtain ⟨v6, g6_⟩ : ∃ v, v = orI n u6 u3 := ⟨_, rfl⟩
  obtain ⟨v7, g7_⟩ : ∃ v, v = orI n u7 u4 := ⟨_, rfl⟩
  obtain ⟨v8, g8_⟩ : ∃ v, v = orI n u8 u5 := ⟨_, rfl⟩
  have HOr : ∀ w : World, Calls Try.prog 32 #[mat u0 u1 u2 u3 u4 u5 u6 u7 u8] w (MatOut v0 v1 v2 v3 v4 v5 v6 v7 v8 w) := fun w => by rw [g0_, g1_, g2_, g3_, g4_, g5_, g6_, g7_, g8_, ← hid_]; exact oriented_any u0 u1 u2 u3 u4 u5 u6 u7 u8 w
  have d0 : inS v0 := by rw [g0_]; exact b0
  have d1 : inS v1 := by rw [g1_]; exact b1
  have d3 : inS v3 := by rw [g3_]; unfold orI; split; exact b6; exact b3
  have d4 : inS v4 := by rw [g4_]; unfold orI; split; exact b7; exact b4
  have d6 : inS v6 := by rw [g6_]; unfold orI; split; exact b3; exact b6
  have d7 : inS v7 := by rw [g7_]; unfold orI; split; exact b4; exact b7
  obtain ⟨m, em⟩ : ∃ m, m = absP n := ⟨_, rfl⟩
  have hm : 1 ≤ m := by rw [em]; unfold absP; split <;> omega
  have hid2 : arP v0 v1 v3 v4 v6 v7 = m := by
    rw [ar_in d0 d1 d3 d4 d6 d7, em, ← hid_, ar_in b0 b1 b3 b4 b6 b7, g0_, g1_, g3_, g4_, g6_, g7_, ← hid_, ar_in b0 b1 b3 b4 b6 b7]
    unfold orI absP
    by_cases h : sdP u0 u1 u3 u4 u6 u7 < 0
    · simp only [if_pos h]
      exact sd_flip ..
    · simp only [if_neg h]
  have HAr : ∀ w : World, Calls Try.prog 16 #[mat v0 v1 v2 v3 v4 v5 v6 v7 v8] w (IntOut m w) := fun w => by rw [← hid2]; exact signedArea2_any v0 v1 v2 v3 v4 v5 v6 v7 v8 w
  have z0 : -1000000 ≤ v2 ∧ v2 ≤ 1000000 := by rw [g2_, e2_]; exact cc_bd a2
  have z1 : -1000000 ≤ v5 ∧ v5 ≤ 1000000 := by rw [g5_, e5_, e8_]; unfold orI; split; exact cc_bd a8; exact cc_bd a5
  have z2 : -1000000 ≤ v8 ∧ v8 ≤ 1000000 := by rw [g8_, e5_, e8_]; unfold orI; split; exact cc_bd a5; exact cc_bd a8
  obtain ⟨s0, es0⟩ : ∃ s, s = sdP v3 v4 v6 v7 x y := ⟨_, rfl⟩
  have bs0 : -80000000000 ≤ s0 ∧ s0 ≤ 80000000000 := by rw [es0]; exact (sd_bd d3 d4 d6 d7 HX.1 HX.2).2.2
  have q0 := zw_bd (z := v2) (s := s0) z0 bs0
  obtain ⟨s1, es1⟩ : ∃ s, s = sdP v6 v7 v0 v1 x y := ⟨_, rfl⟩
  have bs1 : -80000000000 ≤ s1 ∧ s1 ≤ 80000000000 := by rw [es1]; exact (sd_bd d6 d7 d0 d1 HX.1 HX.2).2.2
  have q1 := zw_bd (z := v5) (s := s1) z1 bs1
  obtain ⟨s2, es2⟩ : ∃ s, s = sdP v0 v1 v3 v4 x y := ⟨_, rfl⟩
  have bs2 : -80000000000 ≤ s2 ∧ s2 ≤ 80000000000 := by rw [es2]; exact (sd_bd d0 d1 d3 d4 HX.1 HX.2).2.2
  have q2 := zw_bd (z := v8) (s := s2) z2 bs2
  have HF0 : ∀ (d a g : Nat) (w : World) (h0 : w.cell? ⟨d, 0, none⟩ = some (.int .i64 (v6 - v3))) (h1 : w.cell? ⟨a, 0, none⟩ = some (.int .i64 v3)) (h2 : w.cell? ⟨a, 1, none⟩ = some (.int .i64 v4)) (h3 : w.cell? ⟨g, 0, none⟩ = some (.int .i64 (v7 - v4))), Calls Try.prog 65 #[.int .i64 x, .int .i64 y, .pointer (some ⟨d, 0, none⟩), .pointer (some ⟨a, 0, none⟩), .pointer (some ⟨g, 0, none⟩)] w (fun e w' => e = .returned (.int .i64 s0) ∧ w = w') := fun d a g w h0 h1 h2 h3 => by
    rw [es0]
    exact edgeFn_any d a g v3 v4 (v6 - v3) (v7 - v4) x y HX.1 HX.2 d3 d4 (by have := d3; have := d6; unfold inS at *; omega) (by have := d4; have := d7; unfold inS at *; omega) w h0 h1 h2 h3
  have HF1 : ∀ (d a g : Nat) (w : World) (h0 : w.cell? ⟨d, 0, none⟩ = some (.int .i64 (v0 - v6))) (h1 : w.cell? ⟨a, 0, none⟩ = some (.int .i64 v6)) (h2 : w.cell? ⟨a, 1, none⟩ = some (.int .i64 v7)) (h3 : w.cell? ⟨g, 0, none⟩ = some (.int .i64 (v1 - v7))), Calls Try.prog 65 #[.int .i64 x, .int .i64 y, .pointer (some ⟨d, 0, none⟩), .pointer (some ⟨a, 0, none⟩), .pointer (some ⟨g, 0, none⟩)] w (fun e w' => e = .returned (.int .i64 s1) ∧ w = w') := fun d a g w h0 h1 h2 h3 => by
    rw [es1]
    exact edgeFn_any d a g v6 v7 (v0 - v6) (v1 - v7) x y HX.1 HX.2 d6 d7 (by have := d6; have := d0; unfold inS at *; omega) (by have := d7; have := d1; unfold inS at *; omega) w h0 h1 h2 h3
  have HF2 : ∀ (d a g : Nat) (w : World) (h0 : w.cell? ⟨d, 0, none⟩ = some (.int .i64 (v3 - v0))) (h1 : w.cell? ⟨a, 0, none⟩ = some (.int .i64 v0)) (h2 : w.cell? ⟨a, 1, none⟩ = some (.int .i64 v1)) (h3 : w.cell? ⟨g, 0, none⟩ = some (.int .i64 (v4 - v1))), Calls Try.prog 65 #[.int .i64 x, .int .i64 y, .pointer (some ⟨d, 0, none⟩), .pointer (some ⟨a, 0, none⟩), .pointer (some ⟨g, 0, none⟩)] w (fun e w' => e = .returned (.int .i64 s2) ∧ w = w') := fun d a g w h0 h1 h2 h3 => by
    rw [es2]
    exact edgeFn_any d a g v0 v1 (v3 - v0) (v4 - v1) x y HX.1 HX.2 d0 d1 (by have := d0; have := d3; unfold inS at *; omega) (by have := d1; have := d4; unfold inS at *; omega) w h0 h1 h2 h3
  have HDP := Lib.hid (show depP a0 a1 a2 a3 a4 a5 a6 a7 a8 x y = fdivP (v2 * s0 + v5 * s1 + v8 * s2) m by rw [dep_or en ecv.symm, ← e0_, ← e1_, ← e2_, ← e3_, ← e4_, ← e5_, ← e6_, ← e7_, ← e8_, ← g3_, ← g4_, ← g5_, ← g6_, ← g7_, ← g8_, ← em, es0, es1, es2, g0_, g1_, g2_])
  clear hid_ hid2 en em ecv e0_ e1_ e2_ e3_ e4_ e5_ e6_ e7_ e8_ g0_ g1_ g2_ g3_ g4_ g5_ g6_ g7_ g8_ es0 bs0 es1 bs1 es2 bs2 b0 b1 b3 b4 b6 b7 HX hn0 bn
  have n3 : IntKind.i64.wrap (v2 * s0) = v2 * s0 := wrap_in (by omega)
  have n4 : IntKind.i64.wrap (v5 * s1) = v5 * s1 := wrap_in (by omega)
  have n5 : IntKind.i64.wrap (v8 * s2) = v8 * s2 := wrap_in (by omega)
  have n6 : IntKind.i64.wrap (0 + v2 * s0) = v2 * s0 := by rw [Int.zero_add]; exact n3
  have n7 : IntKind.i64.wrap (v2 * s0 + v5 * s1) = v2 * s0 + v5 * s1 := wrap_in (by omega)
  have n8 : IntKind.i64.wrap (v2 * s0 + v5 * s1 + v8 * s2) = v2 * s0 + v5 * s1 + v8 * s2 := wrap_in (by omega)
  have HFl : ∀ w : World, Calls Try.prog 36 #[.int .i64 (v2 * s0 + v5 * s1 + v8 * s2), .int .i64 m] w (fun e w' => e = .returned (.int .i64 (fdivP (v2 * s0 + v5 * s1 + v8 * s2) m)) ∧ w = w') := fun w => floorDiv_any _ _ _ (by omega) (by omega)
  have HCl := Lib.hid HCl
  have HAr := Lib.hid HAr
  have HOr := Lib.hid HOr
  have HFl := Lib.hid HFl
  have HF0 := Lib.hid HF0
  have HF1 := Lib.hid HF1
  have HF2 := Lib.hid HF2
  have HD := Lib.hid (And.intro (And.intro d0 (And.intro d1 d3)) (And.intro d4 (And.intro d6 d7)))
  clear d0 d1 d3 d4 d6 d7 q0 q1 q2 z0 z1 z2 hm
  go_enter Try.func14, Try.ntmps14
  go_wp2_with fail
  refine (HCv.out _).mono ?_
  rintro e w1 ⟨rfl, hb1⟩
  have HT := HT.later hb1
  clear hb1
  have c0 := (HT.box 0).c 0
  have c1 := (HT.box 0).c 1
  have c2 := (HT.box 0).c 2
  have c3 := (HT.box 0).c 3
  have c4 := (HT.box 0).c 4
  have c5 := (HT.box 0).c 5
  have c6 := (HT.box 0).c 6
  have c7 := (HT.box 0).c 7
  have c8 := (HT.box 0).c 8
  go_wp2_with fail
  refine (HCl.out _).mono ?_
  rintro e w2 ⟨rfl, hb2⟩
  have HT := HT.later hb2
  clear hb2 c0 c1 c2 c3 c4 c5 c6 c7 c8
  go_wp2_with fail
  refine (HOr.out _).mono ?_
  rintro e w3 ⟨rfl, hb3⟩
  have HT := HT.later hb3
  clear hb3
  have c0 := (HT.box 0).c 0
  have c1 := (HT.box 0).c 1
  have c2 := (HT.box 0).c 2
  have c3 := (HT.box 0).c 3
  have c4 := (HT.box 0).c 4
  have c5 := (HT.box 0).c 5
  have c6 := (HT.box 0).c 6
  have c7 := (HT.box 0).c 7
  have c8 := (HT.box 0).c 8
  have f0 := (HT.box 0).f 0
  have f1 := (HT.box 0).f 1
  have f2 := (HT.box 0).f 2
  have f3 := (HT.box 0).f 3
  have f4 := (HT.box 0).f 4
  have f5 := (HT.box 0).f 5
  have f6 := (HT.box 0).f 6
  have f7 := (HT.box 0).f 7
  have f8 := (HT.box 0).f 8
  go_upto_region 4 with fail
  have HP := HT.put9 (by omega) (by simp) (.int .i64 v0) (.int .i64 v1) (.int .i64 v2) (.int .i64 v3) (.int .i64 v4) (.int .i64 v5) (.int .i64 v6) (.int .i64 v7) (.int .i64 v8)
  clear HT c0 c1 c2 c3 c4 c5 c6 c7 c8 f0 f1 f2 f3 f4 f5 f6 f7 f8
  generalize (((((((((w3.setCell ⟨w.heap.size, 0, none⟩ (.int .i64 v0)).setCell ⟨w.heap.size, 1, none⟩ (.int .i64 v1)).setCell ⟨w.heap.size, 2, none⟩ (.int .i64 v2)).setCell ⟨w.heap.size, 3, none⟩ (.int .i64 v3)).setCell ⟨w.heap.size, 4, none⟩ (.int .i64 v4)).setCell ⟨w.heap.size, 5, none⟩ (.int .i64 v5)).setCell ⟨w.heap.size, 6, none⟩ (.int .i64 v6)).setCell ⟨w.heap.size, 7, none⟩ (.int .i64 v7)).setCell ⟨w.heap.size, 8, none⟩ (.int .i64 v8)) = W2 at HP ⊢
  have c0 := (HP.box 0).c 0
  have c1 := (HP.box 0).c 1
  have c2 := (HP.box 0).c 2
  have c3 := (HP.box 0).c 3
  have c4 := (HP.box 0).c 4
  have c5 := (HP.box 0).c 5
  have c6 := (HP.box 0).c 6
  have c7 := (HP.box 0).c 7
  have c8 := (HP.box 0).c 8
  have HH := Lib.hid HP
  clear HP
  go_wp2
  go_loopw [21, 8] (fun i sm wr => (i = .int .i64 0 ∧ sm = .int .i64 (0) ∧ Held w wr [(w.heap.size, [.int .i64 v0, .int .i64 v1, .int .i64 v2, .int .i64 v3, .int .i64 v4, .int .i64 v5, .int .i64 v6, .int .i64 v7, .int .i64 v8])]) ∨ (i = .int .i64 1 ∧ sm = .int .i64 (v2 * s0) ∧ Held w wr [(w.heap.size, [.int .i64 v0, .int .i64 v1, .int .i64 v2, .int .i64 v3, .int .i64 v4, .int .i64 v5, .int .i64 v6, .int .i64 v7, .int .i64 v8])]) ∨ (i = .int .i64 2 ∧ sm = .int .i64 (v2 * s0 + v5 * s1) ∧ Held w wr [(w.heap.size, [.int .i64 v0, .int .i64 v1, .int .i64 v2, .int .i64 v3, .int .i64 v4, .int .i64 v5, .int .i64 v6, .int .i64 v7, .int .i64 v8])]) ∨ (i = .int .i64 3 ∧ sm = .int .i64 (v2 * s0 + v5 * s1 + v8 * s2) ∧ Held w wr [(w.heap.size, [.int .i64 v0, .int .i64 v1, .int .i64 v2, .int .i64 v3, .int .i64 v4, .int .i64 v5, .int .i64 v6, .int .i64 v7, .int .i64 v8])])) (fun i _ _ => 3 - (intOf i).toNat)
  case atStart => exact Or.inl ⟨rfl, rfl, HH.out⟩
  case round =>
    clear HH c0 c1 c2 c3 c4 c5 c6 c7 c8
    rcases hrel with ⟨rfl, rfl, HT⟩ | ⟨rfl, rfl, HT⟩ | ⟨rfl, rfl, HT⟩ | ⟨rfl, rfl, HT⟩
    · have hix : ∀ w : World, (Instr.index 25 (mat v0 v1 v2 v3 v4 v5 v6 v7 v8) (.int .i64 0)).run Try.prog w = .ok (vec v0 v1 v2) w := fun w => index_tri v0 v1 v2 v3 v4 v5 v6 v7 v8 (v0, v1, v2) 0 rfl w
      have nk : IntKind.i64.wrap (0 + 1) = 1 := by rfl
      have HE := Lib.hid (show ∀ w : World, Calls Try.prog 33 #[mat v0 v1 v2 v3 v4 v5 v6 v7 v8, .int .i64 1] w (EdgeOut v3 v4 v6 v7 w) from fun w => edgeFrom_any v0 v1 v2 v3 v4 v5 v6 v7 v8 1 (by omega) (by omega) HD.out.1.1 HD.out.1.2.1 HD.out.1.2.2 HD.out.2.1 HD.out.2.2.1 HD.out.2.2.2 w)
      go_upto_region 8 with fail
      have HV := (HT.pick (cs := [(w.heap.size, [.int .i64 v0, .int .i64 v1, .int .i64 v2, .int .i64 v3, .int .i64 v4, .int .i64 v5, .int .i64 v6, .int .i64 v7, .int .i64 v8])]) (by simp)).new #[.int .i64 v0, .int .i64 v1, .int .i64 v2] 24
      obtain ⟨W1, hW1⟩ : ∃ W, W = wr.alloc (.cells #[.int .i64 v0, .int .i64 v1, .int .i64 v2] 24) := ⟨_, rfl⟩
      rw [← hW1] at HV ⊢
      clear hW1 HT
      generalize hk1 : wr.heap.size = k1 at HV ⊢
      clear hk1
      have HT := HV
      clear HV
      have HC : ∀ W, Held w W [(k1, [.int .i64 v0, .int .i64 v1, .int .i64 v2]), (w.heap.size, [.int .i64 v0, .int .i64 v1, .int .i64 v2, .int .i64 v3, .int .i64 v4, .int .i64 v5, .int .i64 v6, .int .i64 v7, .int .i64 v8])] → (W.cell? ⟨w.heap.size, 0, none⟩ = some (.int .i64 v0) ∧ W.cell? ⟨w.heap.size, 1, none⟩ = some (.int .i64 v1) ∧ W.cell? ⟨w.heap.size, 2, none⟩ = some (.int .i64 v2) ∧ W.cell? ⟨w.heap.size, 3, none⟩ = some (.int .i64 v3) ∧ W.cell? ⟨w.heap.size, 4, none⟩ = some (.int .i64 v4) ∧ W.cell? ⟨w.heap.size, 5, none⟩ = some (.int .i64 v5) ∧ W.cell? ⟨w.heap.size, 6, none⟩ = some (.int .i64 v6) ∧ W.cell? ⟨w.heap.size, 7, none⟩ = some (.int .i64 v7) ∧ W.cell? ⟨w.heap.size, 8, none⟩ = some (.int .i64 v8) ∧ W.cell? ⟨k1, 0, none⟩ = some (.int .i64 v0) ∧ W.cell? ⟨k1, 1, none⟩ = some (.int .i64 v1) ∧ W.cell? ⟨k1, 2, none⟩ = some (.int .i64 v2)) := fun W h => ⟨(h.box 1).c 0, (h.box 1).c 1, (h.box 1).c 2, (h.box 1).c 3, (h.box 1).c 4, (h.box 1).c 5, (h.box 1).c 6, (h.box 1).c 7, (h.box 1).c 8, (h.box 0).c 0, (h.box 0).c 1, (h.box 0).c 2⟩
      go_region_held3 (fun w' => w'.cell? ⟨w.heap.size, 0, none⟩ = some (.int .i64 v0) ∧ w'.cell? ⟨w.heap.size, 1, none⟩ = some (.int .i64 v1) ∧ w'.cell? ⟨w.heap.size, 2, none⟩ = some (.int .i64 v2) ∧ w'.cell? ⟨w.heap.size, 3, none⟩ = some (.int .i64 v3) ∧ w'.cell? ⟨w.heap.size, 4, none⟩ = some (.int .i64 v4) ∧ w'.cell? ⟨w.heap.size, 5, none⟩ = some (.int .i64 v5) ∧ w'.cell? ⟨w.heap.size, 6, none⟩ = some (.int .i64 v6) ∧ w'.cell? ⟨w.heap.size, 7, none⟩ = some (.int .i64 v7) ∧ w'.cell? ⟨w.heap.size, 8, none⟩ = some (.int .i64 v8) ∧ w'.cell? ⟨k1, 0, none⟩ = some (.int .i64 v0) ∧ w'.cell? ⟨k1, 1, none⟩ = some (.int .i64 v1) ∧ w'.cell? ⟨k1, 2, none⟩ = some (.int .i64 v2))
        (first | (with_reducible exact HC _ HT) | (with_reducible exact HC _ HT.drew))
        (first | (go_at_call 33; refine (HE.out _).mono ?_; rintro e w1 ⟨d, a, g, rfl, hb1, e0, e1, e2, e3⟩; (first | (have HT := HT.later hb1) | (have HT := HT.drew.later hb1))) | (go_at_call 65; refine (HF0.out _ _ _ _ e0 e1 e2 e3).mono ?_; rintro e w1 ⟨rfl, rfl⟩))
      go_wp2_with fail
      go_roundw
      case rel => exact (Or.inr (Or.inl ⟨by first | rfl | go_num, by first | rfl | (simp only [n3, n4, n5, n6, n7, n8, Int.zero_add]), (HT.pick (cs := [(w.heap.size, [.int .i64 v0, .int .i64 v1, .int .i64 v2, .int .i64 v3, .int .i64 v4, .int .i64 v5, .int .i64 v6, .int .i64 v7, .int .i64 v8])]) (by simp))⟩))
      case measure => simp [intOf]
    · have hix : ∀ w : World, (Instr.index 25 (mat v0 v1 v2 v3 v4 v5 v6 v7 v8) (.int .i64 1)).run Try.prog w = .ok (vec v3 v4 v5) w := fun w => index_tri v0 v1 v2 v3 v4 v5 v6 v7 v8 (v3, v4, v5) 1 rfl w
      have nk : IntKind.i64.wrap (1 + 1) = 2 := by rfl
      have HE := Lib.hid (show ∀ w : World, Calls Try.prog 33 #[mat v0 v1 v2 v3 v4 v5 v6 v7 v8, .int .i64 2] w (EdgeOut v6 v7 v0 v1 w) from fun w => edgeFrom_any v0 v1 v2 v3 v4 v5 v6 v7 v8 2 (by omega) (by omega) HD.out.1.1 HD.out.1.2.1 HD.out.1.2.2 HD.out.2.1 HD.out.2.2.1 HD.out.2.2.2 w)
      go_upto_region 8 with fail
      have HV := (HT.pick (cs := [(w.heap.size, [.int .i64 v0, .int .i64 v1, .int .i64 v2, .int .i64 v3, .int .i64 v4, .int .i64 v5, .int .i64 v6, .int .i64 v7, .int .i64 v8])]) (by simp)).new #[.int .i64 v3, .int .i64 v4, .int .i64 v5] 24
      obtain ⟨W1, hW1⟩ : ∃ W, W = wr.alloc (.cells #[.int .i64 v3, .int .i64 v4, .int .i64 v5] 24) := ⟨_, rfl⟩
      rw [← hW1] at HV ⊢
      clear hW1 HT
      generalize hk1 : wr.heap.size = k1 at HV ⊢
      clear hk1
      have HT := HV
      clear HV
      have HC : ∀ W, Held w W [(k1, [.int .i64 v3, .int .i64 v4, .int .i64 v5]), (w.heap.size, [.int .i64 v0, .int .i64 v1, .int .i64 v2, .int .i64 v3, .int .i64 v4, .int .i64 v5, .int .i64 v6, .int .i64 v7, .int .i64 v8])] → (W.cell? ⟨w.heap.size, 0, none⟩ = some (.int .i64 v0) ∧ W.cell? ⟨w.heap.size, 1, none⟩ = some (.int .i64 v1) ∧ W.cell? ⟨w.heap.size, 2, none⟩ = some (.int .i64 v2) ∧ W.cell? ⟨w.heap.size, 3, none⟩ = some (.int .i64 v3) ∧ W.cell? ⟨w.heap.size, 4, none⟩ = some (.int .i64 v4) ∧ W.cell? ⟨w.heap.size, 5, none⟩ = some (.int .i64 v5) ∧ W.cell? ⟨w.heap.size, 6, none⟩ = some (.int .i64 v6) ∧ W.cell? ⟨w.heap.size, 7, none⟩ = some (.int .i64 v7) ∧ W.cell? ⟨w.heap.size, 8, none⟩ = some (.int .i64 v8) ∧ W.cell? ⟨k1, 0, none⟩ = some (.int .i64 v3) ∧ W.cell? ⟨k1, 1, none⟩ = some (.int .i64 v4) ∧ W.cell? ⟨k1, 2, none⟩ = some (.int .i64 v5)) := fun W h => ⟨(h.box 1).c 0, (h.box 1).c 1, (h.box 1).c 2, (h.box 1).c 3, (h.box 1).c 4, (h.box 1).c 5, (h.box 1).c 6, (h.box 1).c 7, (h.box 1).c 8, (h.box 0).c 0, (h.box 0).c 1, (h.box 0).c 2⟩
      go_region_held3 (fun w' => w'.cell? ⟨w.heap.size, 0, none⟩ = some (.int .i64 v0) ∧ w'.cell? ⟨w.heap.size, 1, none⟩ = some (.int .i64 v1) ∧ w'.cell? ⟨w.heap.size, 2, none⟩ = some (.int .i64 v2) ∧ w'.cell? ⟨w.heap.size, 3, none⟩ = some (.int .i64 v3) ∧ w'.cell? ⟨w.heap.size, 4, none⟩ = some (.int .i64 v4) ∧ w'.cell? ⟨w.heap.size, 5, none⟩ = some (.int .i64 v5) ∧ w'.cell? ⟨w.heap.size, 6, none⟩ = some (.int .i64 v6) ∧ w'.cell? ⟨w.heap.size, 7, none⟩ = some (.int .i64 v7) ∧ w'.cell? ⟨w.heap.size, 8, none⟩ = some (.int .i64 v8) ∧ w'.cell? ⟨k1, 0, none⟩ = some (.int .i64 v3) ∧ w'.cell? ⟨k1, 1, none⟩ = some (.int .i64 v4) ∧ w'.cell? ⟨k1, 2, none⟩ = some (.int .i64 v5))
        (first | (with_reducible exact HC _ HT) | (with_reducible exact HC _ HT.drew))
        (first | (go_at_call 33; refine (HE.out _).mono ?_; rintro e w1 ⟨d, a, g, rfl, hb1, e0, e1, e2, e3⟩; (first | (have HT := HT.later hb1) | (have HT := HT.drew.later hb1))) | (go_at_call 65; refine (HF1.out _ _ _ _ e0 e1 e2 e3).mono ?_; rintro e w1 ⟨rfl, rfl⟩))
      go_wp2_with fail
      go_roundw
      case rel => exact (Or.inr (Or.inr (Or.inl ⟨by first | rfl | go_num, by first | rfl | (simp only [n3, n4, n5, n6, n7, n8, Int.zero_add]), (HT.pick (cs := [(w.heap.size, [.int .i64 v0, .int .i64 v1, .int .i64 v2, .int .i64 v3, .int .i64 v4, .int .i64 v5, .int .i64 v6, .int .i64 v7, .int .i64 v8])]) (by simp))⟩)))
      case measure => simp [intOf]
    · have hix : ∀ w : World, (Instr.index 25 (mat v0 v1 v2 v3 v4 v5 v6 v7 v8) (.int .i64 2)).run Try.prog w = .ok (vec v6 v7 v8) w := fun w => index_tri v0 v1 v2 v3 v4 v5 v6 v7 v8 (v6, v7, v8) 2 rfl w
      have nk : IntKind.i64.wrap (2 + 1) = 3 := by rfl
      have HE := Lib.hid (show ∀ w : World, Calls Try.prog 33 #[mat v0 v1 v2 v3 v4 v5 v6 v7 v8, .int .i64 3] w (EdgeOut v0 v1 v3 v4 w) from fun w => edgeFrom_any v0 v1 v2 v3 v4 v5 v6 v7 v8 3 (by omega) (by omega) HD.out.1.1 HD.out.1.2.1 HD.out.1.2.2 HD.out.2.1 HD.out.2.2.1 HD.out.2.2.2 w)
      go_upto_region 8 with fail
      have HV := (HT.pick (cs := [(w.heap.size, [.int .i64 v0, .int .i64 v1, .int .i64 v2, .int .i64 v3, .int .i64 v4, .int .i64 v5, .int .i64 v6, .int .i64 v7, .int .i64 v8])]) (by simp)).new #[.int .i64 v6, .int .i64 v7, .int .i64 v8] 24
      obtain ⟨W1, hW1⟩ : ∃ W, W = wr.alloc (.cells #[.int .i64 v6, .int .i64 v7, .int .i64 v8] 24) := ⟨_, rfl⟩
      rw [← hW1] at HV ⊢
      clear hW1 HT
      generalize hk1 : wr.heap.size = k1 at HV ⊢
      clear hk1
      have HT := HV
      clear HV
      have HC : ∀ W, Held w W [(k1, [.int .i64 v6, .int .i64 v7, .int .i64 v8]), (w.heap.size, [.int .i64 v0, .int .i64 v1, .int .i64 v2, .int .i64 v3, .int .i64 v4, .int .i64 v5, .int .i64 v6, .int .i64 v7, .int .i64 v8])] → (W.cell? ⟨w.heap.size, 0, none⟩ = some (.int .i64 v0) ∧ W.cell? ⟨w.heap.size, 1, none⟩ = some (.int .i64 v1) ∧ W.cell? ⟨w.heap.size, 2, none⟩ = some (.int .i64 v2) ∧ W.cell? ⟨w.heap.size, 3, none⟩ = some (.int .i64 v3) ∧ W.cell? ⟨w.heap.size, 4, none⟩ = some (.int .i64 v4) ∧ W.cell? ⟨w.heap.size, 5, none⟩ = some (.int .i64 v5) ∧ W.cell? ⟨w.heap.size, 6, none⟩ = some (.int .i64 v6) ∧ W.cell? ⟨w.heap.size, 7, none⟩ = some (.int .i64 v7) ∧ W.cell? ⟨w.heap.size, 8, none⟩ = some (.int .i64 v8) ∧ W.cell? ⟨k1, 0, none⟩ = some (.int .i64 v6) ∧ W.cell? ⟨k1, 1, none⟩ = some (.int .i64 v7) ∧ W.cell? ⟨k1, 2, none⟩ = some (.int .i64 v8)) := fun W h => ⟨(h.box 1).c 0, (h.box 1).c 1, (h.box 1).c 2, (h.box 1).c 3, (h.box 1).c 4, (h.box 1).c 5, (h.box 1).c 6, (h.box 1).c 7, (h.box 1).c 8, (h.box 0).c 0, (h.box 0).c 1, (h.box 0).c 2⟩
      go_region_held3 (fun w' => w'.cell? ⟨w.heap.size, 0, none⟩ = some (.int .i64 v0) ∧ w'.cell? ⟨w.heap.size, 1, none⟩ = some (.int .i64 v1) ∧ w'.cell? ⟨w.heap.size, 2, none⟩ = some (.int .i64 v2) ∧ w'.cell? ⟨w.heap.size, 3, none⟩ = some (.int .i64 v3) ∧ w'.cell? ⟨w.heap.size, 4, none⟩ = some (.int .i64 v4) ∧ w'.cell? ⟨w.heap.size, 5, none⟩ = some (.int .i64 v5) ∧ w'.cell? ⟨w.heap.size, 6, none⟩ = some (.int .i64 v6) ∧ w'.cell? ⟨w.heap.size, 7, none⟩ = some (.int .i64 v7) ∧ w'.cell? ⟨w.heap.size, 8, none⟩ = some (.int .i64 v8) ∧ w'.cell? ⟨k1, 0, none⟩ = some (.int .i64 v6) ∧ w'.cell? ⟨k1, 1, none⟩ = some (.int .i64 v7) ∧ w'.cell? ⟨k1, 2, none⟩ = some (.int .i64 v8))
        (first | (with_reducible exact HC _ HT) | (with_reducible exact HC _ HT.drew))
        (first | (go_at_call 33; refine (HE.out _).mono ?_; rintro e w1 ⟨d, a, g, rfl, hb1, e0, e1, e2, e3⟩; (first | (have HT := HT.later hb1) | (have HT := HT.drew.later hb1))) | (go_at_call 65; refine (HF2.out _ _ _ _ e0 e1 e2 e3).mono ?_; rintro e w1 ⟨rfl, rfl⟩))
      go_wp2_with fail
      go_roundw
      case rel => exact (Or.inr (Or.inr (Or.inr ⟨by first | rfl | go_num, by first | rfl | (simp only [n3, n4, n5, n6, n7, n8, Int.zero_add]), (HT.pick (cs := [(w.heap.size, [.int .i64 v0, .int .i64 v1, .int .i64 v2, .int .i64 v3, .int .i64 v4, .int .i64 v5, .int .i64 v6, .int .i64 v7, .int .i64 v8])]) (by simp))⟩)))
      case measure => simp [intOf]
    · skip
      have c0 := (HT.box 0).c 0
      have c1 := (HT.box 0).c 1
      have c2 := (HT.box 0).c 2
      have c3 := (HT.box 0).c 3
      have c4 := (HT.box 0).c 4
      have c5 := (HT.box 0).c 5
      have c6 := (HT.box 0).c 6
      have c7 := (HT.box 0).c 7
      have c8 := (HT.box 0).c 8
      go_wp2_with fail
      refine (HAr.out _).mono ?_
      rintro e w6 ⟨rfl, hb6⟩
      have HT := HT.later hb6
      clear hb6 c0 c1 c2 c3 c4 c5 c6 c7 c8
      go_wp2_with fail
      refine (HFl.out _).mono ?_
      rintro e w7 ⟨rfl, rfl⟩
      go_wp2_with fail
      exact bodyPost_ret (v := .tuple #[.int .i64 (fdivP (v2 * s0 + v5 * s1 + v8 * s2) m), .bool true]) (by simp [results, Try.results14, go_sem]) rfl ⟨ret_dy HY.out HDP.out.symm, HT.below⟩
end Go.Proofs.Ytjjafbcfmijppaa
