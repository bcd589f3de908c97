/- Contracts of SignedArea2 and of orienting a triangle: the program and its model. -/
import Derived.Test.YtjjafbcfmijppaaProg
import Derived.Test.YtjjafbcfmijppaaInts
import Derived.Test.YtjjafbcfmijppaaVbox
import Derived.Test.YtjjafbcfmijppaaVec
import Derived.Test.YtjjafbcfmijppaaHeld
import Derived.Test.YtjjafbcfmijppaaArr
import Derived.Test.YtjjafbcfmijppaaTr
import Derived.Test.YtjjafbcfmijppaaMem
import Derived.Test.YtjjafbcfmijppaaFlat
import Derived.Test.YtjjafbcfmijppaaRowC
import Derived.Test.YtjjafbcfmijppaaPat
import Derived.Test.YtjjafbcfmijppaaCam
import Derived.Test.YtjjafbcfmijppaaCPrj
import Derived.Test.YtjjafbcfmijppaaTri
import Derived.Test.YtjjafbcfmijppaaTCl
import Derived.Test.YtjjafbcfmijppaaTEd
import Derived.Test.YtjjafbcfmijppaaTSd
import Derived.WalkKit
import Derived.WalkSpells
import Derived.WalkLawsBesides
import Derived.Lib.Hide
import Derived.Deep.RegionHeld3
import Derived.Deep.QuietTactic
import Derived.BigQuiet
import Derived.Handy
import Derived.Deep.DeepCutAuto
namespace Go.Proofs.Ytjjafbcfmijppaa
open Go.RowKit

/-- twice the area of a triangle's clamped corners, with its sign -/
def arP (a b c d e f : Int) : Int := sdP (scr a) (scr b) (scr c) (scr d) (scr e) (scr f)
theorem ar_bd (a b c d e f : Int) : -80000000000 ≤ arP a b c d e f ∧ arP a b c d e f ≤ 80000000000 :=
  (sd_bd (scr_bd a) (scr_bd b) (scr_bd c) (scr_bd d) (scr_bd e) (scr_bd f)).2.2
theorem scr_scr (n : Int) : scr (scr n) = scr n := scr_in (scr_bd n).1 (scr_bd n).2
theorem ar_in {a b c d e f : Int} (h0 : inS a) (h1 : inS b) (h2 : inS c) (h3 : inS d) (h4 : inS e) (h5 : inS f) : arP a b c d e f = sdP a b c d e f := by
  unfold arP
  rw [scr_in h0.1 h0.2, scr_in h1.1 h1.2, scr_in h2.1 h2.2, scr_in h3.1 h3.2, scr_in h4.1 h4.2, scr_in h5.1 h5.2]
/-- one of two, by the sign of an area -/
def orI (n a b : Int) : Int := if n < 0 then b else a

set_option maxHeartbeats 8000000 in
theorem signedArea2_any (a0 a1 a2 a3 a4 a5 a6 a7 a8 : Int) (w : World) :
    Calls Try.prog 16 #[mat a0 a1 a2 a3 a4 a5 a6 a7 a8] w (IntOut (arP a0 a1 a3 a4 a6 a7) w) := by
  obtain ⟨u0, e0_⟩ : ∃ u, u = scr a0 := ⟨_, rfl⟩
  obtain ⟨u1, e1_⟩ : ∃ u, u = scr a1 := ⟨_, rfl⟩
  obtain ⟨u2, e2_⟩ : ∃ u, u = cc a2 := ⟨_, rfl⟩
  obtain ⟨u3, e3_⟩ : ∃ u, u = scr a3 := ⟨_, rfl⟩
  obtain ⟨u4, e4_⟩ : ∃ u, u = scr a4 := ⟨_, rfl⟩
  obtain ⟨u5, e5_⟩ : ∃ u, u = cc a5 := ⟨_, rfl⟩
  obtain ⟨u6, e6_⟩ : ∃ u, u = scr a6 := ⟨_, rfl⟩
  obtain ⟨u7, e7_⟩ : ∃ u, u = scr a7 := ⟨_, rfl⟩
  obtain ⟨u8, e8_⟩ : ∃ u, u = cc a8 := ⟨_, rfl⟩
  have HCl : ∀ w : World, Calls Try.prog 31 #[mat a0 a1 a2 a3 a4 a5 a6 a7 a8] w (MatOut u0 u1 u2 u3 u4 u5 u6 u7 u8 w) := fun w => by rw [e0_, e1_, e2_, e3_, e4_, e5_, e6_, e7_, e8_]; exact tclamped_any a0 a1 a2 a3 a4 a5 a6 a7 a8 w
  have b0 : inS u0 := by rw [e0_]; exact scr_bd a0
  have b1 : inS u1 := by rw [e1_]; exact scr_bd a1
  have b3 : inS u3 := by rw [e3_]; exact scr_bd a3
  have b4 : inS u4 := by rw [e4_]; exact scr_bd a4
  have b6 : inS u6 := by rw [e6_]; exact scr_bd a6
  have b7 : inS u7 := by rw [e7_]; exact scr_bd a7
  have HA : arP a0 a1 a3 a4 a6 a7 = sdP u0 u1 u3 u4 u6 u7 := by unfold arP; rw [← e0_, ← e1_, ← e3_, ← e4_, ← e6_, ← e7_]
  have HCo : ∀ w : World, Calls Try.prog 35 #[mat u0 u1 u2 u3 u4 u5 u6 u7 u8, .int .i64 2] w (VecOut u6 u7 u8 w) := fun w => corner_any u0 u1 u2 u3 u4 u5 u6 u7 u8 2 (by omega) (by omega) w
  have HEd : ∀ w : World, Calls Try.prog 33 #[mat u0 u1 u2 u3 u4 u5 u6 u7 u8, .int .i64 0] w (EdgeOut u0 u1 u3 u4 w) := fun w => edgeFrom_any u0 u1 u2 u3 u4 u5 u6 u7 u8 0 (by omega) (by omega) b0 b1 b3 b4 b6 b7 w
  have d0 : -200000 ≤ u3 - u0 ∧ u3 - u0 ≤ 200000 := by unfold inS at *; omega
  have d1 : -200000 ≤ u4 - u1 ∧ u4 - u1 ≤ 200000 := by unfold inS at *; omega
  have HFn : ∀ (d a g : Nat) (w : World) (h0 : w.cell? ⟨d, 0, none⟩ = some (.int .i64 (u3 - u0))) (h1 : w.cell? ⟨a, 0, none⟩ = some (.int .i64 u0)) (h2 : w.cell? ⟨a, 1, none⟩ = some (.int .i64 u1)) (h3 : w.cell? ⟨g, 0, none⟩ = some (.int .i64 (u4 - u1))), Calls Try.prog 65 #[.int .i64 u6, .int .i64 u7, .pointer (some ⟨d, 0, none⟩), .pointer (some ⟨a, 0, none⟩), .pointer (some ⟨g, 0, none⟩)] w (fun e w' => e = .returned (.int .i64 (arP a0 a1 a3 a4 a6 a7)) ∧ w = w') := fun d a g w h0 h1 h2 h3 => by rw [HA]; exact edgeFn_any d a g u0 u1 (u3 - u0) (u4 - u1) u6 u7 b6 b7 b0 b1 d0 d1 w h0 h1 h2 h3
  clear HA d0 d1 b0 b1 b3 b4 b6 b7 e0_ e1_ e2_ e3_ e4_ e5_ e6_ e7_ e8_
  generalize arP a0 a1 a3 a4 a6 a7 = n at HFn ⊢
  have HCl := Lib.hid HCl
  have HCo := Lib.hid HCo
  have HEd := Lib.hid HEd
  have HFn := Lib.hid HFn
  have HT : Held w (w.alloc (.cells #[.int .i64 a0, .int .i64 a1, .int .i64 a2, .int .i64 a3, .int .i64 a4, .int .i64 a5, .int .i64 a6, .int .i64 a7, .int .i64 a8] 27)) [(w.heap.size, [.int .i64 a0, .int .i64 a1, .int .i64 a2, .int .i64 a3, .int .i64 a4, .int .i64 a5, .int .i64 a6, .int .i64 a7, .int .i64 a8])] := by
    have h := (Held.nil w).new #[.int .i64 a0, .int .i64 a1, .int .i64 a2, .int .i64 a3, .int .i64 a4, .int .i64 a5, .int .i64 a6, .int .i64 a7, .int .i64 a8] 27
    simpa only [World.size_alloc] using h
  go_enter Try.func16, Try.ntmps16
  go_wp2_with fail
  refine (HCl.out _).mono ?_
  rintro e w1 ⟨rfl, hb1⟩
  have HT := HT.later hb1
  clear hb1
  have c0 := (HT.box 0).c 0
  have c1 := (HT.box 0).c 1
  have c2 := (HT.box 0).c 2
  have c3 := (HT.box 0).c 3
  have c4 := (HT.box 0).c 4
  have c5 := (HT.box 0).c 5
  have c6 := (HT.box 0).c 6
  have c7 := (HT.box 0).c 7
  have c8 := (HT.box 0).c 8
  have f0 := (HT.box 0).f 0
  have f1 := (HT.box 0).f 1
  have f2 := (HT.box 0).f 2
  have f3 := (HT.box 0).f 3
  have f4 := (HT.box 0).f 4
  have f5 := (HT.box 0).f 5
  have f6 := (HT.box 0).f 6
  have f7 := (HT.box 0).f 7
  have f8 := (HT.box 0).f 8
  go_upto_region 2 with fail
  have HP := HT.put9 (by omega) (by simp) (.int .i64 u0) (.int .i64 u1) (.int .i64 u2) (.int .i64 u3) (.int .i64 u4) (.int .i64 u5) (.int .i64 u6) (.int .i64 u7) (.int .i64 u8)
  clear HT c0 c1 c2 c3 c4 c5 c6 c7 c8 f0 f1 f2 f3 f4 f5 f6 f7 f8
  generalize (((((((((w1.setCell ⟨w.heap.size, 0, none⟩ (.int .i64 u0)).setCell ⟨w.heap.size, 1, none⟩ (.int .i64 u1)).setCell ⟨w.heap.size, 2, none⟩ (.int .i64 u2)).setCell ⟨w.heap.size, 3, none⟩ (.int .i64 u3)).setCell ⟨w.heap.size, 4, none⟩ (.int .i64 u4)).setCell ⟨w.heap.size, 5, none⟩ (.int .i64 u5)).setCell ⟨w.heap.size, 6, none⟩ (.int .i64 u6)).setCell ⟨w.heap.size, 7, none⟩ (.int .i64 u7)).setCell ⟨w.heap.size, 8, none⟩ (.int .i64 u8)) = W2 at HP ⊢
  have c0 := (HP.box 0).c 0
  have c1 := (HP.box 0).c 1
  have c2 := (HP.box 0).c 2
  have c3 := (HP.box 0).c 3
  have c4 := (HP.box 0).c 4
  have c5 := (HP.box 0).c 5
  have c6 := (HP.box 0).c 6
  have c7 := (HP.box 0).c 7
  have c8 := (HP.box 0).c 8
  go_wp2_with fail
  refine (HCo.out _).mono ?_
  rintro e w3 ⟨rfl, hb3⟩
  have HT := (HP.later hb3).new #[.int .i64 u6, .int .i64 u7, .int .i64 u8] 24
  clear hb3 HP c0 c1 c2 c3 c4 c5 c6 c7 c8
  go_upto_region 3 with fail
  generalize w3.alloc _ = W4 at HT ⊢
  generalize w3.heap.size = k1 at HT ⊢
  have HC : ∀ W, Held w W [(k1, [.int .i64 u6, .int .i64 u7, .int .i64 u8]), (w.heap.size, [.int .i64 u0, .int .i64 u1, .int .i64 u2, .int .i64 u3, .int .i64 u4, .int .i64 u5, .int .i64 u6, .int .i64 u7, .int .i64 u8])] → (W.cell? ⟨w.heap.size, 0, none⟩ = some (.int .i64 u0) ∧ W.cell? ⟨w.heap.size, 1, none⟩ = some (.int .i64 u1) ∧ W.cell? ⟨w.heap.size, 2, none⟩ = some (.int .i64 u2) ∧ W.cell? ⟨w.heap.size, 3, none⟩ = some (.int .i64 u3) ∧ W.cell? ⟨w.heap.size, 4, none⟩ = some (.int .i64 u4) ∧ W.cell? ⟨w.heap.size, 5, none⟩ = some (.int .i64 u5) ∧ W.cell? ⟨w.heap.size, 6, none⟩ = some (.int .i64 u6) ∧ W.cell? ⟨w.heap.size, 7, none⟩ = some (.int .i64 u7) ∧ W.cell? ⟨w.heap.size, 8, none⟩ = some (.int .i64 u8) ∧ W.cell? ⟨k1, 0, none⟩ = some (.int .i64 u6) ∧ W.cell? ⟨k1, 1, none⟩ = some (.int .i64 u7) ∧ W.cell? ⟨k1, 2, none⟩ = some (.int .i64 u8)) := fun W h => ⟨(h.box 1).c 0, (h.box 1).c 1, (h.box 1).c 2, (h.box 1).c 3, (h.box 1).c 4, (h.box 1).c 5, (h.box 1).c 6, (h.box 1).c 7, (h.box 1).c 8, (h.box 0).c 0, (h.box 0).c 1, (h.box 0).c 2⟩
  go_region_held3 (fun w' => w'.cell? ⟨w.heap.size, 0, none⟩ = some (.int .i64 u0) ∧ w'.cell? ⟨w.heap.size, 1, none⟩ = some (.int .i64 u1) ∧ w'.cell? ⟨w.heap.size, 2, none⟩ = some (.int .i64 u2) ∧ w'.cell? ⟨w.heap.size, 3, none⟩ = some (.int .i64 u3) ∧ w'.cell? ⟨w.heap.size, 4, none⟩ = some (.int .i64 u4) ∧ w'.cell? ⟨w.heap.size, 5, none⟩ = some (.int .i64 u5) ∧ w'.cell? ⟨w.heap.size, 6, none⟩ = some (.int .i64 u6) ∧ w'.cell? ⟨w.heap.size, 7, none⟩ = some (.int .i64 u7) ∧ w'.cell? ⟨w.heap.size, 8, none⟩ = some (.int .i64 u8) ∧ w'.cell? ⟨k1, 0, none⟩ = some (.int .i64 u6) ∧ w'.cell? ⟨k1, 1, none⟩ = some (.int .i64 u7) ∧ w'.cell? ⟨k1, 2, none⟩ = some (.int .i64 u8))
    (first | (with_reducible exact HC _ HT) | (with_reducible exact HC _ HT.drew))
    (first | (go_at_call 33; refine (HEd.out _).mono ?_; rintro e w1 ⟨d, a, g, rfl, hb1, e0, e1, e2, e3⟩; (first | (have HT := HT.later hb1) | (have HT := HT.drew.later hb1))) | (go_at_call 65; refine (HFn.out _ _ _ _ e0 e1 e2 e3).mono ?_; rintro e w1 ⟨rfl, rfl⟩))
  go_wp2_with fail
  go_ret
  exact ⟨rfl, by first | exact HT.below | exact HT.drew.below⟩

set_option maxHeartbeats 4000000 in
theorem sSignedArea2_any (a0 a1 a2 a3 a4 a5 a6 a7 a8 : Int) (w : World) :
    Calls Try.prog 17 #[mat a0 a1 a2 a3 a4 a5 a6 a7 a8] w (IntOut (arP a0 a1 a3 a4 a6 a7) w) := by
  obtain ⟨u0, e0_⟩ : ∃ u, u = scr a0 := ⟨_, rfl⟩
  obtain ⟨u1, e1_⟩ : ∃ u, u = scr a1 := ⟨_, rfl⟩
  obtain ⟨u2, e2_⟩ : ∃ u, u = cc a2 := ⟨_, rfl⟩
  obtain ⟨u3, e3_⟩ : ∃ u, u = scr a3 := ⟨_, rfl⟩
  obtain ⟨u4, e4_⟩ : ∃ u, u = scr a4 := ⟨_, rfl⟩
  obtain ⟨u5, e5_⟩ : ∃ u, u = cc a5 := ⟨_, rfl⟩
  obtain ⟨u6, e6_⟩ : ∃ u, u = scr a6 := ⟨_, rfl⟩
  obtain ⟨u7, e7_⟩ : ∃ u, u = scr a7 := ⟨_, rfl⟩
  obtain ⟨u8, e8_⟩ : ∃ u, u = cc a8 := ⟨_, rfl⟩
  have HCl : ∀ w : World, Calls Try.prog 38 #[mat a0 a1 a2 a3 a4 a5 a6 a7 a8] w (MatOut u0 u1 u2 u3 u4 u5 u6 u7 u8 w) := fun w => by rw [e0_, e1_, e2_, e3_, e4_, e5_, e6_, e7_, e8_]; exact l09P_any a0 a1 a2 a3 a4 a5 a6 a7 a8 w
  have b0 : inS u0 := by rw [e0_]; exact scr_bd a0
  have b1 : inS u1 := by rw [e1_]; exact scr_bd a1
  have b3 : inS u3 := by rw [e3_]; exact scr_bd a3
  have b4 : inS u4 := by rw [e4_]; exact scr_bd a4
  have b6 : inS u6 := by rw [e6_]; exact scr_bd a6
  have b7 : inS u7 := by rw [e7_]; exact scr_bd a7
  have HA : arP a0 a1 a3 a4 a6 a7 = sdP u0 u1 u3 u4 u6 u7 := by unfold arP; rw [← e0_, ← e1_, ← e3_, ← e4_, ← e6_, ← e7_]
  have HSi : ∀ w : World, Calls Try.prog 39 #[vec u0 u1 u2, vec u3 u4 u5, .int .i64 u6, .int .i64 u7] w (IntOut (arP a0 a1 a3 a4 a6 a7) w) := fun w => by rw [HA]; exact l09Side_any u0 u1 u2 u3 u4 u5 u6 u7 b0 b1 b3 b4 b6 b7 w
  clear HA b0 b1 b3 b4 b6 b7 e0_ e1_ e2_ e3_ e4_ e5_ e6_ e7_ e8_
  generalize arP a0 a1 a3 a4 a6 a7 = n at HSi ⊢
  have HCl := Lib.hid HCl
  have HSi := Lib.hid HSi
  have HT : Held w (w.alloc (.cells #[.int .i64 a0, .int .i64 a1, .int .i64 a2, .int .i64 a3, .int .i64 a4, .int .i64 a5, .int .i64 a6, .int .i64 a7, .int .i64 a8] 27)) [(w.heap.size, [.int .i64 a0, .int .i64 a1, .int .i64 a2, .int .i64 a3, .int .i64 a4, .int .i64 a5, .int .i64 a6, .int .i64 a7, .int .i64 a8])] := by
    have h := (Held.nil w).new #[.int .i64 a0, .int .i64 a1, .int .i64 a2, .int .i64 a3, .int .i64 a4, .int .i64 a5, .int .i64 a6, .int .i64 a7, .int .i64 a8] 27
    simpa only [World.size_alloc] using h
  go_enter Try.func17, Try.ntmps17
  go_wp2_with fail
  refine (HCl.out _).mono ?_
  rintro e w1 ⟨rfl, hb1⟩
  have HT := (HT.later hb1).new #[.int .i64 u0, .int .i64 u1, .int .i64 u2, .int .i64 u3, .int .i64 u4, .int .i64 u5, .int .i64 u6, .int .i64 u7, .int .i64 u8] 25
  clear hb1
  go_upto_region 2 with fail
  generalize w1.alloc _ = W4 at HT ⊢
  generalize w1.heap.size = k1 at HT ⊢
  have c0 := (HT.box 0).c 0
  have c1 := (HT.box 0).c 1
  have c2 := (HT.box 0).c 2
  have c3 := (HT.box 0).c 3
  have c4 := (HT.box 0).c 4
  have c5 := (HT.box 0).c 5
  have c6 := (HT.box 0).c 6
  have c7 := (HT.box 0).c 7
  have c8 := (HT.box 0).c 8
  go_wp2_with fail
  refine (HSi.out _).mono ?_
  rintro e w2 ⟨rfl, hb2⟩
  have HT := HT.later hb2
  go_wp2_with fail
  go_ret
  exact ⟨rfl, HT.below⟩

set_option maxHeartbeats 4000000 in
theorem oriented_any (a0 a1 a2 a3 a4 a5 a6 a7 a8 : Int) (w : World) :
    Calls Try.prog 32 #[mat a0 a1 a2 a3 a4 a5 a6 a7 a8] w (MatOut a0 a1 a2 (orI (arP a0 a1 a3 a4 a6 a7) a3 a6) (orI (arP a0 a1 a3 a4 a6 a7) a4 a7) (orI (arP a0 a1 a3 a4 a6 a7) a5 a8) (orI (arP a0 a1 a3 a4 a6 a7) a6 a3) (orI (arP a0 a1 a3 a4 a6 a7) a7 a4) (orI (arP a0 a1 a3 a4 a6 a7) a8 a5) w) := by
  have HAr : ∀ w : World, Calls Try.prog 16 #[mat a0 a1 a2 a3 a4 a5 a6 a7 a8] w (IntOut (arP a0 a1 a3 a4 a6 a7) w) := fun w => signedArea2_any a0 a1 a2 a3 a4 a5 a6 a7 a8 w
  generalize arP a0 a1 a3 a4 a6 a7 = n at HAr ⊢
  have HAr := Lib.hid HAr
  have HT : Held w ((w.alloc (.cells #[.int .i64 a0, .int .i64 a1, .int .i64 a2, .int .i64 a3, .int .i64 a4, .int .i64 a5, .int .i64 a6, .int .i64 a7, .int .i64 a8] 27)).alloc (.cells #[.int .i64 0, .int .i64 0, .int .i64 0, .int .i64 0, .int .i64 0, .int .i64 0, .int .i64 0, .int .i64 0, .int .i64 0] 27)) [(w.heap.size + 1, [.int .i64 0, .int .i64 0, .int .i64 0, .int .i64 0, .int .i64 0, .int .i64 0, .int .i64 0, .int .i64 0, .int .i64 0]), (w.heap.size, [.int .i64 a0, .int .i64 a1, .int .i64 a2, .int .i64 a3, .int .i64 a4, .int .i64 a5, .int .i64 a6, .int .i64 a7, .int .i64 a8])] := by
    have h := ((Held.nil w).new #[.int .i64 a0, .int .i64 a1, .int .i64 a2, .int .i64 a3, .int .i64 a4, .int .i64 a5, .int .i64 a6, .int .i64 a7, .int .i64 a8] 27).new #[.int .i64 0, .int .i64 0, .int .i64 0, .int .i64 0, .int .i64 0, .int .i64 0, .int .i64 0, .int .i64 0, .int .i64 0] 27
    simpa only [World.size_alloc] using h
  by_cases h : n < 0
  · have HO := Lib.hid (show ∀ a b, orI n a b = b from fun a b => if_pos h)
    go_enter Try.func32, Try.ntmps32
    go_wp2_with fail
    refine (HAr.out _).mono ?_
    rintro e w1 ⟨rfl, hb1⟩
    have HT := HT.later hb1
    clear hb1
    have c0 := (HT.box 1).c 0
    have c1 := (HT.box 1).c 1
    have c2 := (HT.box 1).c 2
    have c3 := (HT.box 1).c 3
    have c4 := (HT.box 1).c 4
    have c5 := (HT.box 1).c 5
    have c6 := (HT.box 1).c 6
    have c7 := (HT.box 1).c 7
    have c8 := (HT.box 1).c 8
    go_wp2_with fail
    refine (flipTriangle_any _ _ _ _ _ _ _ _ _ _).mono ?_
    rintro e w2 ⟨rfl, hb2⟩
    have HT := HT.later hb2
    clear hb2
    have r0 := (HT.box 0).c 0
    have r1 := (HT.box 0).c 1
    have r2 := (HT.box 0).c 2
    have r3 := (HT.box 0).c 3
    have r4 := (HT.box 0).c 4
    have r5 := (HT.box 0).c 5
    have r6 := (HT.box 0).c 6
    have r7 := (HT.box 0).c 7
    have r8 := (HT.box 0).c 8
    have g0 := (HT.box 0).f 0
    have g1 := (HT.box 0).f 1
    have g2 := (HT.box 0).f 2
    have g3 := (HT.box 0).f 3
    have g4 := (HT.box 0).f 4
    have g5 := (HT.box 0).f 5
    have g6 := (HT.box 0).f 6
    have g7 := (HT.box 0).f 7
    have g8 := (HT.box 0).f 8
    have HW := HT.below
    clear HT
    go_wp2_with fail
    exact bodyPost_ret (v := mat a0 a1 a2 a6 a7 a8 a3 a4 a5) (by simp [results, Try.results32, go_sem, r0, r1, r2, r3, r4, r5, r6, r7, r8]) rfl ⟨by rw [HO.out a3 a6, HO.out a4 a7, HO.out a5 a8, HO.out a6 a3, HO.out a7 a4, HO.out a8 a5], bset_far9 HW (by omega)⟩
  · have HO := Lib.hid (show ∀ a b, orI n a b = a from fun a b => if_neg h)
    have h : 0 ≤ n := by omega
    go_enter Try.func32, Try.ntmps32
    go_wp2_with fail
    refine (HAr.out _).mono ?_
    rintro e w1 ⟨rfl, hb1⟩
    have HT := HT.later hb1
    clear hb1
    have c0 := (HT.box 1).c 0
    have c1 := (HT.box 1).c 1
    have c2 := (HT.box 1).c 2
    have c3 := (HT.box 1).c 3
    have c4 := (HT.box 1).c 4
    have c5 := (HT.box 1).c 5
    have c6 := (HT.box 1).c 6
    have c7 := (HT.box 1).c 7
    have c8 := (HT.box 1).c 8
    have r0 := (HT.box 0).c 0
    have r1 := (HT.box 0).c 1
    have r2 := (HT.box 0).c 2
    have r3 := (HT.box 0).c 3
    have r4 := (HT.box 0).c 4
    have r5 := (HT.box 0).c 5
    have r6 := (HT.box 0).c 6
    have r7 := (HT.box 0).c 7
    have r8 := (HT.box 0).c 8
    have g0 := (HT.box 0).f 0
    have g1 := (HT.box 0).f 1
    have g2 := (HT.box 0).f 2
    have g3 := (HT.box 0).f 3
    have g4 := (HT.box 0).f 4
    have g5 := (HT.box 0).f 5
    have g6 := (HT.box 0).f 6
    have g7 := (HT.box 0).f 7
    have g8 := (HT.box 0).f 8
    have HW := HT.below
    clear HT
    go_wp2_with fail
    exact bodyPost_ret (v := mat a0 a1 a2 a3 a4 a5 a6 a7 a8) (by simp [results, Try.results32, go_sem, r0, r1, r2, r3, r4, r5, r6, r7, r8]) rfl ⟨by rw [HO.out a3 a6, HO.out a4 a7, HO.out a5 a8, HO.out a6 a3, HO.out a7 a4, HO.out a8 a5], bset_far9 HW (by omega)⟩
end Go.Proofs.Ytjjafbcfmijppaa
