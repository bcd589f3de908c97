/- Contracts of DepthAt: the model. -/
import Derived.Test.YtjjafbcfmijppaaProg
import Derived.Test.YtjjafbcfmijppaaInts
import Derived.Test.YtjjafbcfmijppaaVbox
import Derived.Test.YtjjafbcfmijppaaVec
import Derived.Test.YtjjafbcfmijppaaHeld
import Derived.Test.YtjjafbcfmijppaaArr
import Derived.Test.YtjjafbcfmijppaaTr
import Derived.Test.YtjjafbcfmijppaaMem
import Derived.Test.YtjjafbcfmijppaaFlat
import Derived.Test.YtjjafbcfmijppaaRowC
import Derived.Test.YtjjafbcfmijppaaPat
import Derived.Test.YtjjafbcfmijppaaCam
import Derived.Test.YtjjafbcfmijppaaCPrj
import Derived.Test.YtjjafbcfmijppaaTri
import Derived.Test.YtjjafbcfmijppaaTCl
import Derived.Test.YtjjafbcfmijppaaTEd
import Derived.Test.YtjjafbcfmijppaaTSd
import Derived.Test.YtjjafbcfmijppaaTAr
import Derived.Test.YtjjafbcfmijppaaTPu
import Derived.Test.YtjjafbcfmijppaaTCs
import Derived.WalkKit
import Derived.WalkSpells
import Derived.WalkLawsBesides
import Derived.Lib.Hide
import Derived.Deep.RegionHeld3
import Derived.Deep.QuietTactic
import Derived.BigQuiet
import Derived.Handy
import Derived.Deep.DeepCutAuto
namespace Go.Proofs.Ytjjafbcfmijppaa
open Go.RowKit

def dpV (k : Bool) (n : Int) : Int := if k = true then n else 0
/-- a depth and whether there is one -/
def DpOut (k : Bool) (n : Int) (w : World) (e : Ending) (w' : World) : Prop := e = .returned (.tuple #[.int .i64 (dpV k n), .bool k]) ∧ Below w.heap.size w w'
theorem ret_dp {n m : Int} {k : Bool} (h : k = true → n = m) : Ending.returned (.tuple #[.int .i64 (dpV k n), .bool k]) = .returned (.tuple #[.int .i64 (dpV k m), .bool k]) := by
  cases k
  · rfl
  · rw [h rfl]
theorem ret_dn {n : Int} {k : Bool} (h : k = false) : Ending.returned (.tuple #[.int .i64 0, .bool false]) = .returned (.tuple #[.int .i64 (dpV k n), .bool k]) := by rw [h]; rfl
theorem ret_dy {n m : Int} {k : Bool} (h : k = true) (e : m = n) : Ending.returned (.tuple #[.int .i64 m, .bool true]) = .returned (.tuple #[.int .i64 (dpV k n), .bool k]) := by rw [h, e]; rfl
theorem abs_bd {n m : Int} (h : -m ≤ n ∧ n ≤ m) : 0 ≤ absP n ∧ absP n ≤ m := by unfold absP; split <;> omega
theorem zw_bd {z s : Int} (hz : -1000000 ≤ z ∧ z ≤ 1000000) (hs : -80000000000 ≤ s ∧ s ≤ 80000000000) : -80000000000000000 ≤ z * s ∧ z * s ≤ 80000000000000000 := by
  have := mul_bd (a := z) (b := s) (m := 1000000) (n := 80000000000) (by omega) (by omega)
  omega

set_option maxHeartbeats 8000000 in
theorem sDepthAt_any (a0 a1 a2 a3 a4 a5 a6 a7 a8 x y : Int) (w : World) :
    Calls Try.prog 22 #[mat a0 a1 a2 a3 a4 a5 a6 a7 a8, .int .i64 x, .int .i64 y] w (DpOut (covP a0 a1 a3 a4 a6 a7 x y) (depP a0 a1 a2 a3 a4 a5 a6 a7 a8 x y) w) := by
  obtain ⟨cv, ecv⟩ : ∃ b, b = covP a0 a1 a3 a4 a6 a7 x y := ⟨_, rfl⟩
  have HCv : ∀ w : World, Calls Try.prog 21 #[mat a0 a1 a2 a3 a4 a5 a6 a7 a8, .int .i64 x, .int .i64 y] w (BOut cv w) := fun w => by rw [ecv]; exact sCovers_any a0 a1 a2 a3 a4 a5 a6 a7 a8 x y w
  have HCv := Lib.hid HCv
  have HT : Held w (w.alloc (.cells #[.int .i64 a0, .int .i64 a1, .int .i64 a2, .int .i64 a3, .int .i64 a4, .int .i64 a5, .int .i64 a6, .int .i64 a7, .int .i64 a8] 27)) [(w.heap.size, [.int .i64 a0, .int .i64 a1, .int .i64 a2, .int .i64 a3, .int .i64 a4, .int .i64 a5, .int .i64 a6, .int .i64 a7, .int .i64 a8])] := by
    have h := (Held.nil w).new #[.int .i64 a0, .int .i64 a1, .int .i64 a2, .int .i64 a3, .int .i64 a4, .int .i64 a5, .int .i64 a6, .int .i64 a7, .int .i64 a8] 27
    simpa only [World.size_alloc] using h
  rcases cv with _ | _
  · have HZ := Lib.hid ecv.symm
    clear ecv
    go_enter Try.func22, Try.ntmps22
    go_wp2_with fail
    refine (HCv.out _).mono ?_
    rintro e w1 ⟨rfl, hb1⟩
    have HT := HT.later hb1
    go_wp2_with fail
    exact bodyPost_ret (v := .tuple #[.int .i64 0, .bool false]) (by simp [results, Try.results22, go_sem]) rfl ⟨ret_dn HZ.out, HT.below⟩
  have HY := Lib.hid ecv.symm
  have HX : inS x ∧ inS y := by
    have h := ecv.symm
    unfold covP at h
    simp only [Bool.and_eq_true, inC_inS] at h
    exact h.2.1
  obtain ⟨u0, e0_⟩ : ∃ u, u = scr a0 := ⟨_, rfl⟩
  obtain ⟨u1, e1_⟩ : ∃ u, u = scr a1 := ⟨_, rfl⟩
  obtain ⟨u2, e2_⟩ : ∃ u, u = cc a2 := ⟨_, rfl⟩
  obtain ⟨u3, e3_⟩ : ∃ u, u = scr a3 := ⟨_, rfl⟩
  obtain ⟨u4, e4_⟩ : ∃ u, u = scr a4 := ⟨_, rfl⟩
  obtain ⟨u5, e5_⟩ : ∃ u, u = cc a5 := ⟨_, rfl⟩
  obtain ⟨u6, e6_⟩ : ∃ u, u = scr a6 := ⟨_, rfl⟩
  obtain ⟨u7, e7_⟩ : ∃ u, u = scr a7 := ⟨_, rfl⟩
  obtain ⟨u8, e8_⟩ : ∃ u, u = cc a8 := ⟨_, rfl⟩
  have b0 : inS u0 := by rw [e0_]; exact scr_bd a0
  have b1 : inS u1 := by rw [e1_]; exact scr_bd a1
  have b3 : inS u3 := by rw [e3_]; exact scr_bd a3
  have b4 : inS u4 := by rw [e4_]; exact scr_bd a4
  have b6 : inS u6 := by rw [e6_]; exact scr_bd a6
  have b7 : inS u7 := by rw [e7_]; exact scr_bd a7
  obtain ⟨n, en⟩ : ∃ n, n = arP a0 a1 a3 a4 a6 a7 := ⟨_, rfl⟩
  have hid_ : arP u0 u1 u3 u4 u6 u7 = n := by rw [en, ar_in b0 b1 b3 b4 b6 b7]; unfold arP; rw [← e0_, ← e1_, ← e3_, ← e4_, ← e6_, ← e7_]
  have hn0 : n ≠ 0 := by
    have h := ecv.symm
    unfold covP at h
    rw [← en] at h
    simp only [Bool.and_eq_true, Bool.not_eq_true', decide_eq_false_iff_not] at h
    exact h.1
  have bn := ar_bd a0 a1 a3 a4 a6 a7
  rw [← en] at bn
  have HCl : ∀ w : World, Calls Try.prog 38 #[mat a0 a1 a2 a3 a4 a5 a6 a7 a8] w (MatOut u0 u1 u2 u3 u4 u5 u6 u7 u8 w) := fun w => by rw [e0_, e1_, e2_, e3_, e4_, e5_, e6_, e7_, e8_]; exact l09P_any a0 a1 a2 a3 a4 a5 a6 a7 a8 w
  have HAr : ∀ w : World, Calls Try.prog 17 #[mat a0 a1 a2 a3 a4 a5 a6 a7 a8] w (IntOut n w) := fun w => by rw [en]; exact sSignedArea2_any a0 a1 a2 a3 a4 a5 a6 a7 a8 w
  obtain ⟨m, em⟩ : ∃ m, m = absP n := ⟨_, rfl⟩
  have hm : 1 ≤ m := by rw [em]; unfold absP; split <;> omega
  have HAn : ∀ w : World, Calls Try.prog 44 #[.int .i64 n] w (fun e w' => e = .returned (.int .i64 m) ∧ w = w') := fun w => by rw [em]; exact l09Abs_any n (by omega) (by omega) w
  have z0 : -1000000 ≤ u2 ∧ u2 ≤ 1000000 := by rw [e2_]; exact cc_bd a2
  have z1 : -1000000 ≤ u5 ∧ u5 ≤ 1000000 := by rw [e5_]; exact cc_bd a5
  have z2 : -1000000 ≤ u8 ∧ u8 ≤ 1000000 := by rw [e8_]; exact cc_bd a8
  obtain ⟨s0, es0⟩ : ∃ s, s = sdP u3 u4 u6 u7 x y := ⟨_, rfl⟩
  have bs0 : -80000000000 ≤ s0 ∧ s0 ≤ 80000000000 := by rw [es0]; exact (sd_bd b3 b4 b6 b7 HX.1 HX.2).2.2
  have HS0 : ∀ w : World, Calls Try.prog 39 #[vec u3 u4 u5, vec u6 u7 u8, .int .i64 x, .int .i64 y] w (IntOut s0 w) := fun w => by rw [es0]; exact l09Side_any u3 u4 u5 u6 u7 u8 x y b3 b4 b6 b7 HX.1 HX.2 w
  obtain ⟨t0, et0⟩ : ∃ t, t = absP s0 := ⟨_, rfl⟩
  have bt0 : 0 ≤ t0 ∧ t0 ≤ 80000000000 := by rw [et0]; exact abs_bd bs0
  have HA0 : ∀ w : World, Calls Try.prog 44 #[.int .i64 s0] w (fun e w' => e = .returned (.int .i64 t0) ∧ w = w') := fun w => by rw [et0]; exact l09Abs_any s0 (by omega) (by omega) w
  have p0 := zw_bd (z := u2) (s := t0) z0 (by omega)
  obtain ⟨s1, es1⟩ : ∃ s, s = sdP u6 u7 u0 u1 x y := ⟨_, rfl⟩
  have bs1 : -80000000000 ≤ s1 ∧ s1 ≤ 80000000000 := by rw [es1]; exact (sd_bd b6 b7 b0 b1 HX.1 HX.2).2.2
  have HS1 : ∀ w : World, Calls Try.prog 39 #[vec u6 u7 u8, vec u0 u1 u2, .int .i64 x, .int .i64 y] w (IntOut s1 w) := fun w => by rw [es1]; exact l09Side_any u6 u7 u8 u0 u1 u2 x y b6 b7 b0 b1 HX.1 HX.2 w
  obtain ⟨t1, et1⟩ : ∃ t, t = absP s1 := ⟨_, rfl⟩
  have bt1 : 0 ≤ t1 ∧ t1 ≤ 80000000000 := by rw [et1]; exact abs_bd bs1
  have HA1 : ∀ w : World, Calls Try.prog 44 #[.int .i64 s1] w (fun e w' => e = .returned (.int .i64 t1) ∧ w = w') := fun w => by rw [et1]; exact l09Abs_any s1 (by omega) (by omega) w
  have p1 := zw_bd (z := u5) (s := t1) z1 (by omega)
  obtain ⟨s2, es2⟩ : ∃ s, s = sdP u0 u1 u3 u4 x y := ⟨_, rfl⟩
  have bs2 : -80000000000 ≤ s2 ∧ s2 ≤ 80000000000 := by rw [es2]; exact (sd_bd b0 b1 b3 b4 HX.1 HX.2).2.2
  have HS2 : ∀ w : World, Calls Try.prog 39 #[vec u0 u1 u2, vec u3 u4 u5, .int .i64 x, .int .i64 y] w (IntOut s2 w) := fun w => by rw [es2]; exact l09Side_any u0 u1 u2 u3 u4 u5 x y b0 b1 b3 b4 HX.1 HX.2 w
  obtain ⟨t2, et2⟩ : ∃ t, t = absP s2 := ⟨_, rfl⟩
  have bt2 : 0 ≤ t2 ∧ t2 ≤ 80000000000 := by rw [et2]; exact abs_bd bs2
  have HA2 : ∀ w : World, Calls Try.prog 44 #[.int .i64 s2] w (fun e w' => e = .returned (.int .i64 t2) ∧ w = w') := fun w => by rw [et2]; exact l09Abs_any s2 (by omega) (by omega) w
  have p2 := zw_bd (z := u8) (s := t2) z2 (by omega)
  have HD := Lib.hid (show depP a0 a1 a2 a3 a4 a5 a6 a7 a8 x y = fdivP (u2 * t0 + u5 * t1 + u8 * t2) m by unfold depP; rw [← e0_, ← e1_, ← e2_, ← e3_, ← e4_, ← e5_, ← e6_, ← e7_, ← e8_, ← es0, ← es1, ← es2, ← et0, ← et1, ← et2, ← en, ← em])
  clear hid_ en em ecv e0_ e1_ e2_ e3_ e4_ e5_ e6_ e7_ e8_ es0 et0 bs0 es1 et1 bs1 es2 et2 bs2 b0 b1 b3 b4 b6 b7 HX hn0 bn
  have n0 : IntKind.i64.wrap (u2 * t0) = u2 * t0 := wrap_in (by omega)
  have n1 : IntKind.i64.wrap (u5 * t1) = u5 * t1 := wrap_in (by omega)
  have n2 : IntKind.i64.wrap (u2 * t0 + u5 * t1) = u2 * t0 + u5 * t1 := wrap_in (by omega)
  have n3 : IntKind.i64.wrap (u8 * t2) = u8 * t2 := wrap_in (by omega)
  have n4 : IntKind.i64.wrap (u2 * t0 + u5 * t1 + u8 * t2) = u2 * t0 + u5 * t1 + u8 * t2 := wrap_in (by omega)
  have HFl : ∀ w : World, Calls Try.prog 45 #[.int .i64 (u2 * t0 + u5 * t1 + u8 * t2), .int .i64 m] w (fun e w' => e = .returned (.int .i64 (fdivP (u2 * t0 + u5 * t1 + u8 * t2) m)) ∧ w = w') := fun w => sFloorDiv_any _ _ _ (by omega) (by omega)
  have HCl := Lib.hid HCl
  have HAr := Lib.hid HAr
  have HAn := Lib.hid HAn
  have HFl := Lib.hid HFl
  have HS0 := Lib.hid HS0
  have HS1 := Lib.hid HS1
  have HS2 := Lib.hid HS2
  have HA0 := Lib.hid HA0
  have HA1 := Lib.hid HA1
  have HA2 := Lib.hid HA2
  clear p0 p1 p2 bt0 bt1 bt2 z0 z1 z2 hm
  go_enter Try.func22, Try.ntmps22
  go_wp2_with fail
  refine (HCv.out _).mono ?_
  rintro e w1 ⟨rfl, hb1⟩
  have HT := HT.later hb1
  clear hb1
  have c0 := (HT.box 0).c 0
  have c1 := (HT.box 0).c 1
  have c2 := (HT.box 0).c 2
  have c3 := (HT.box 0).c 3
  have c4 := (HT.box 0).c 4
  have c5 := (HT.box 0).c 5
  have c6 := (HT.box 0).c 6
  have c7 := (HT.box 0).c 7
  have c8 := (HT.box 0).c 8
  go_wp2_with fail
  refine (HCl.out _).mono ?_
  rintro e w2 ⟨rfl, hb2⟩
  have HT := (HT.later hb2).new #[.int .i64 u0, .int .i64 u1, .int .i64 u2, .int .i64 u3, .int .i64 u4, .int .i64 u5, .int .i64 u6, .int .i64 u7, .int .i64 u8] 25
  clear hb2 c0 c1 c2 c3 c4 c5 c6 c7 c8
  go_upto_region 4 with fail
  generalize w2.alloc _ = W2 at HT ⊢
  generalize hk1 : w2.heap.size = k1 at HT ⊢
  clear hk1
  have c0 := (HT.box 1).c 0
  have c1 := (HT.box 1).c 1
  have c2 := (HT.box 1).c 2
  have c3 := (HT.box 1).c 3
  have c4 := (HT.box 1).c 4
  have c5 := (HT.box 1).c 5
  have c6 := (HT.box 1).c 6
  have c7 := (HT.box 1).c 7
  have c8 := (HT.box 1).c 8
  go_wp2_with fail
  refine (HAr.out _).mono ?_
  rintro e w3 ⟨rfl, hb3⟩
  have HT := HT.later hb3
  clear hb3 c0 c1 c2 c3 c4 c5 c6 c7 c8
  have c0 := (HT.box 0).c 0
  have c1 := (HT.box 0).c 1
  have c2 := (HT.box 0).c 2
  have c3 := (HT.box 0).c 3
  have c4 := (HT.box 0).c 4
  have c5 := (HT.box 0).c 5
  have c6 := (HT.box 0).c 6
  have c7 := (HT.box 0).c 7
  have c8 := (HT.box 0).c 8
  go_wp2_with fail
  refine (HAn.out _).mono ?_
  rintro e w4 ⟨rfl, rfl⟩
  go_wp2_with fail
  refine (HS0.out _).mono ?_
  rintro e w5 ⟨rfl, hb5⟩
  have HT := HT.later hb5
  clear hb5 c0 c1 c2 c3 c4 c5 c6 c7 c8
  have c0 := (HT.box 0).c 0
  have c1 := (HT.box 0).c 1
  have c2 := (HT.box 0).c 2
  have c3 := (HT.box 0).c 3
  have c4 := (HT.box 0).c 4
  have c5 := (HT.box 0).c 5
  have c6 := (HT.box 0).c 6
  have c7 := (HT.box 0).c 7
  have c8 := (HT.box 0).c 8
  go_wp2_with fail
  refine (HA0.out _).mono ?_
  rintro e w6 ⟨rfl, rfl⟩
  go_wp2_with fail
  refine (HS1.out _).mono ?_
  rintro e w5 ⟨rfl, hb5⟩
  have HT := HT.later hb5
  clear hb5 c0 c1 c2 c3 c4 c5 c6 c7 c8
  have c0 := (HT.box 0).c 0
  have c1 := (HT.box 0).c 1
  have c2 := (HT.box 0).c 2
  have c3 := (HT.box 0).c 3
  have c4 := (HT.box 0).c 4
  have c5 := (HT.box 0).c 5
  have c6 := (HT.box 0).c 6
  have c7 := (HT.box 0).c 7
  have c8 := (HT.box 0).c 8
  go_wp2_with fail
  refine (HA1.out _).mono ?_
  rintro e w6 ⟨rfl, rfl⟩
  go_wp2_with fail
  refine (HS2.out _).mono ?_
  rintro e w5 ⟨rfl, hb5⟩
  have HT := HT.later hb5
  clear hb5 c0 c1 c2 c3 c4 c5 c6 c7 c8
  have c0 := (HT.box 0).c 0
  have c1 := (HT.box 0).c 1
  have c2 := (HT.box 0).c 2
  have c3 := (HT.box 0).c 3
  have c4 := (HT.box 0).c 4
  have c5 := (HT.box 0).c 5
  have c6 := (HT.box 0).c 6
  have c7 := (HT.box 0).c 7
  have c8 := (HT.box 0).c 8
  go_wp2_with fail
  refine (HA2.out _).mono ?_
  rintro e w6 ⟨rfl, rfl⟩
  go_wp2_with fail
  refine (HFl.out _).mono ?_
  rintro e w7 ⟨rfl, rfl⟩
  go_wp2_with fail
  exact bodyPost_ret (v := .tuple #[.int .i64 (fdivP (u2 * t0 + u5 * t1 + u8 * t2) m), .bool true]) (by simp [results, Try.results22, go_sem]) rfl ⟨ret_dy HY.out HD.out.symm, HT.below⟩
end Go.Proofs.Ytjjafbcfmijppaa
