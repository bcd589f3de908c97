/- Contracts of TriangleBounds: the program and its model. -/
import Derived.Test.YtjjafbcfmijppaaProg
import Derived.Test.YtjjafbcfmijppaaInts
import Derived.Test.YtjjafbcfmijppaaVbox
import Derived.Test.YtjjafbcfmijppaaVec
import Derived.Test.YtjjafbcfmijppaaHeld
import Derived.Test.YtjjafbcfmijppaaArr
import Derived.Test.YtjjafbcfmijppaaTr
import Derived.Test.YtjjafbcfmijppaaMem
import Derived.Test.YtjjafbcfmijppaaFlat
import Derived.Test.YtjjafbcfmijppaaRowC
import Derived.Test.YtjjafbcfmijppaaPat
import Derived.Test.YtjjafbcfmijppaaCam
import Derived.Test.YtjjafbcfmijppaaCPrj
import Derived.Test.YtjjafbcfmijppaaTri
import Derived.Test.YtjjafbcfmijppaaTCl
import Derived.Test.YtjjafbcfmijppaaVecS
import Derived.Test.YtjjafbcfmijppaaBox
import Derived.Test.YtjjafbcfmijppaaBPts
import Derived.WalkKit
import Derived.WalkSpells
import Derived.WalkLawsBesides
import Derived.Lib.Hide
import Derived.Deep.RegionHeld3
import Derived.Deep.QuietTactic
import Derived.BigQuiet
import Derived.Handy
import Derived.Deep.DeepCutAuto
namespace Go.Proofs.Ytjjafbcfmijppaa
open Go.RowKit

theorem rowT {W : World} {b : Nat} {xs : List V3} (h : Mbox W b (xs.flatMap vg)) : RowC 3 vg W W.heap.size (some ⟨b, 0, none⟩) xs := fun hn => by
  have e : (xs.flatMap vg)[0]? = some (.int .i64 (xs[0]'hn).1) := (flat_get (g := vg) vg_len xs 0 0 hn (by omega)).trans rfl
  refine ⟨b, 0, rfl, World.block_lt_of_cell? W _ (h.c 0 e), fun k hk j v hv => ?_⟩
  have hj : j < 3 := by have := (List.getElem?_eq_some_iff.1 hv).1; rwa [vg_len] at this
  rw [Nat.zero_add]
  exact h.c (k * 3 + j) ((flat_get (g := vg) vg_len xs k j hk hj).trans hv)
/-- the six bounds of a clamped triangle -/
def tbV (k : Nat) (a0 a1 a2 a3 a4 a5 a6 a7 a8 : Int) : Int := match k with
  | 0 => mnF cx ((scr a0), (scr a1), (cc a2)) [((scr a3), (scr a4), (cc a5)), ((scr a6), (scr a7), (cc a8))]
  | 1 => mnF cy ((scr a0), (scr a1), (cc a2)) [((scr a3), (scr a4), (cc a5)), ((scr a6), (scr a7), (cc a8))]
  | 2 => mnF cz ((scr a0), (scr a1), (cc a2)) [((scr a3), (scr a4), (cc a5)), ((scr a6), (scr a7), (cc a8))]
  | 3 => mxF cx ((scr a0), (scr a1), (cc a2)) [((scr a3), (scr a4), (cc a5)), ((scr a6), (scr a7), (cc a8))]
  | 4 => mxF cy ((scr a0), (scr a1), (cc a2)) [((scr a3), (scr a4), (cc a5)), ((scr a6), (scr a7), (cc a8))]
  | _ => mxF cz ((scr a0), (scr a1), (cc a2)) [((scr a3), (scr a4), (cc a5)), ((scr a6), (scr a7), (cc a8))]

set_option maxHeartbeats 4000000 in
theorem triangleBounds_any (a0 a1 a2 a3 a4 a5 a6 a7 a8 : Int) (w : World) :
    Calls Try.prog 15 #[mat a0 a1 a2 a3 a4 a5 a6 a7 a8] w (BoxOut (tbV 0 a0 a1 a2 a3 a4 a5 a6 a7 a8) (tbV 1 a0 a1 a2 a3 a4 a5 a6 a7 a8) (tbV 2 a0 a1 a2 a3 a4 a5 a6 a7 a8) (tbV 3 a0 a1 a2 a3 a4 a5 a6 a7 a8) (tbV 4 a0 a1 a2 a3 a4 a5 a6 a7 a8) (tbV 5 a0 a1 a2 a3 a4 a5 a6 a7 a8) w) := by
  obtain ⟨u0, e0_⟩ : ∃ u, u = scr a0 := ⟨_, rfl⟩
  obtain ⟨u1, e1_⟩ : ∃ u, u = scr a1 := ⟨_, rfl⟩
  obtain ⟨u2, e2_⟩ : ∃ u, u = cc a2 := ⟨_, rfl⟩
  obtain ⟨u3, e3_⟩ : ∃ u, u = scr a3 := ⟨_, rfl⟩
  obtain ⟨u4, e4_⟩ : ∃ u, u = scr a4 := ⟨_, rfl⟩
  obtain ⟨u5, e5_⟩ : ∃ u, u = cc a5 := ⟨_, rfl⟩
  obtain ⟨u6, e6_⟩ : ∃ u, u = scr a6 := ⟨_, rfl⟩
  obtain ⟨u7, e7_⟩ : ∃ u, u = scr a7 := ⟨_, rfl⟩
  obtain ⟨u8, e8_⟩ : ∃ u, u = cc a8 := ⟨_, rfl⟩
  have HCl : ∀ w : World, Calls Try.prog 31 #[mat a0 a1 a2 a3 a4 a5 a6 a7 a8] w (MatOut u0 u1 u2 u3 u4 u5 u6 u7 u8 w) := fun w => by rw [e0_, e1_, e2_, e3_, e4_, e5_, e6_, e7_, e8_]; exact tclamped_any a0 a1 a2 a3 a4 a5 a6 a7 a8 w
  obtain ⟨q0, h0_⟩ : ∃ q, q = tbV 0 a0 a1 a2 a3 a4 a5 a6 a7 a8 := ⟨_, rfl⟩
  obtain ⟨q1, h1_⟩ : ∃ q, q = tbV 1 a0 a1 a2 a3 a4 a5 a6 a7 a8 := ⟨_, rfl⟩
  obtain ⟨q2, h2_⟩ : ∃ q, q = tbV 2 a0 a1 a2 a3 a4 a5 a6 a7 a8 := ⟨_, rfl⟩
  obtain ⟨q3, h3_⟩ : ∃ q, q = tbV 3 a0 a1 a2 a3 a4 a5 a6 a7 a8 := ⟨_, rfl⟩
  obtain ⟨q4, h4_⟩ : ∃ q, q = tbV 4 a0 a1 a2 a3 a4 a5 a6 a7 a8 := ⟨_, rfl⟩
  obtain ⟨q5, h5_⟩ : ∃ q, q = tbV 5 a0 a1 a2 a3 a4 a5 a6 a7 a8 := ⟨_, rfl⟩
  have HBP : ∀ (g : Nat) (w : World), RowC 3 vg w w.heap.size (some ⟨g, 0, none⟩) [(u0, u1, u2), (u3, u4, u5), (u6, u7, u8)] → Calls Try.prog 37 #[.slice (some ⟨g, 0, none⟩) 3 3] w fun e w' => e = .returned (.tuple #[box q0 q1 q2 q3 q4 q5, .bool true]) ∧ Below w.heap.size w w' := fun g w h => by
    rw [h0_, h1_, h2_, h3_, h4_, h5_]
    unfold tbV
    rw [← e0_, ← e1_, ← e2_, ← e3_, ← e4_, ← e5_, ← e6_, ← e7_, ← e8_]
    exact boundPoints_any _ 3 [(u0, u1, u2), (u3, u4, u5), (u6, u7, u8)] w h (by simp) (by simp)
  rw [← h0_, ← h1_, ← h2_, ← h3_, ← h4_, ← h5_]
  clear h0_ h1_ h2_ h3_ h4_ h5_ e0_ e1_ e2_ e3_ e4_ e5_ e6_ e7_ e8_
  have HCl := Lib.hid HCl
  have HBP := Lib.hid HBP
  have HT : Held w ((w.alloc (.cells #[.int .i64 a0, .int .i64 a1, .int .i64 a2, .int .i64 a3, .int .i64 a4, .int .i64 a5, .int .i64 a6, .int .i64 a7, .int .i64 a8] 27)).alloc (.cells #[.int .i64 0, .int .i64 0, .int .i64 0, .int .i64 0, .int .i64 0, .int .i64 0] 36)) [(w.heap.size + 1, [.int .i64 0, .int .i64 0, .int .i64 0, .int .i64 0, .int .i64 0, .int .i64 0]), (w.heap.size, [.int .i64 a0, .int .i64 a1, .int .i64 a2, .int .i64 a3, .int .i64 a4, .int .i64 a5, .int .i64 a6, .int .i64 a7, .int .i64 a8])] := by
    have h := ((Held.nil w).new #[.int .i64 a0, .int .i64 a1, .int .i64 a2, .int .i64 a3, .int .i64 a4, .int .i64 a5, .int .i64 a6, .int .i64 a7, .int .i64 a8] 27).new #[.int .i64 0, .int .i64 0, .int .i64 0, .int .i64 0, .int .i64 0, .int .i64 0] 36
    simpa only [World.size_alloc] using h
  go_enter Try.func15, Try.ntmps15
  go_wp2_with fail
  refine (HCl.out _).mono ?_
  rintro e w1 ⟨rfl, hb1⟩
  have HT := (HT.later hb1).pick (cs := [(w.heap.size, [.int .i64 a0, .int .i64 a1, .int .i64 a2, .int .i64 a3, .int .i64 a4, .int .i64 a5, .int .i64 a6, .int .i64 a7, .int .i64 a8]), (w.heap.size + 1, [.int .i64 0, .int .i64 0, .int .i64 0, .int .i64 0, .int .i64 0, .int .i64 0])]) (by simp)
  clear hb1
  have c0 := (HT.box 0).c 0
  have c1 := (HT.box 0).c 1
  have c2 := (HT.box 0).c 2
  have c3 := (HT.box 0).c 3
  have c4 := (HT.box 0).c 4
  have c5 := (HT.box 0).c 5
  have c6 := (HT.box 0).c 6
  have c7 := (HT.box 0).c 7
  have c8 := (HT.box 0).c 8
  have f0 := (HT.box 0).f 0
  have f1 := (HT.box 0).f 1
  have f2 := (HT.box 0).f 2
  have f3 := (HT.box 0).f 3
  have f4 := (HT.box 0).f 4
  have f5 := (HT.box 0).f 5
  have f6 := (HT.box 0).f 6
  have f7 := (HT.box 0).f 7
  have f8 := (HT.box 0).f 8
  go_upto_region 2 with fail
  have HP := HT.put9 (by omega) (by simp) (.int .i64 u0) (.int .i64 u1) (.int .i64 u2) (.int .i64 u3) (.int .i64 u4) (.int .i64 u5) (.int .i64 u6) (.int .i64 u7) (.int .i64 u8)
  clear HT c0 c1 c2 c3 c4 c5 c6 c7 c8 f0 f1 f2 f3 f4 f5 f6 f7 f8
  generalize (((((((((w1.setCell ⟨w.heap.size, 0, none⟩ (.int .i64 u0)).setCell ⟨w.heap.size, 1, none⟩ (.int .i64 u1)).setCell ⟨w.heap.size, 2, none⟩ (.int .i64 u2)).setCell ⟨w.heap.size, 3, none⟩ (.int .i64 u3)).setCell ⟨w.heap.size, 4, none⟩ (.int .i64 u4)).setCell ⟨w.heap.size, 5, none⟩ (.int .i64 u5)).setCell ⟨w.heap.size, 6, none⟩ (.int .i64 u6)).setCell ⟨w.heap.size, 7, none⟩ (.int .i64 u7)).setCell ⟨w.heap.size, 8, none⟩ (.int .i64 u8)) = W2 at HP ⊢
  have HT := HP
  clear HP
  go_wp2_with fail
  refine (HBP.out _ _ (rowT (HT.box 0))).mono ?_
  rintro e w3 ⟨rfl, hb3⟩
  have HT := (HT.later hb3).new #[.int .i64 q0, .int .i64 q1, .int .i64 q2, .int .i64 q3, .int .i64 q4, .int .i64 q5] 36
  clear hb3 HBP
  go_upto_region 3 with fail
  generalize w3.alloc _ = W4 at HT ⊢
  generalize hk3 : w3.heap.size = k3 at HT ⊢
  clear hk3
  have c0 := (HT.box 0).c 0
  have c1 := (HT.box 0).c 1
  have c2 := (HT.box 0).c 2
  have c3 := (HT.box 0).c 3
  have c4 := (HT.box 0).c 4
  have c5 := (HT.box 0).c 5
  have HR := HT.pick (cs := [(w.heap.size + 1, [.int .i64 0, .int .i64 0, .int .i64 0, .int .i64 0, .int .i64 0, .int .i64 0])]) (by simp)
  have r0 := (HR.box 0).c 0
  have r1 := (HR.box 0).c 1
  have r2 := (HR.box 0).c 2
  have r3 := (HR.box 0).c 3
  have r4 := (HR.box 0).c 4
  have r5 := (HR.box 0).c 5
  have g0 := (HR.box 0).f 0
  have g1 := (HR.box 0).f 1
  have g2 := (HR.box 0).f 2
  have g3 := (HR.box 0).f 3
  have g4 := (HR.box 0).f 4
  have g5 := (HR.box 0).f 5
  have HW := HT.below
  clear HT HR
  go_wp2_with fail
  exact bodyPost_ret (v := box q0 q1 q2 q3 q4 q5) (by simp [results, Try.results15, go_sem, r0, r1, r2, r3, r4, r5]) rfl ⟨rfl, bset6 HW (by omega)⟩

set_option maxHeartbeats 4000000 in
theorem sTriangleBounds_any (a0 a1 a2 a3 a4 a5 a6 a7 a8 : Int) (w : World) :
    Calls Try.prog 23 #[mat a0 a1 a2 a3 a4 a5 a6 a7 a8] w (BoxOut (tbV 0 a0 a1 a2 a3 a4 a5 a6 a7 a8) (tbV 1 a0 a1 a2 a3 a4 a5 a6 a7 a8) (tbV 2 a0 a1 a2 a3 a4 a5 a6 a7 a8) (tbV 3 a0 a1 a2 a3 a4 a5 a6 a7 a8) (tbV 4 a0 a1 a2 a3 a4 a5 a6 a7 a8) (tbV 5 a0 a1 a2 a3 a4 a5 a6 a7 a8) w) := by
  obtain ⟨u0, e0_⟩ : ∃ u, u = scr a0 := ⟨_, rfl⟩
  obtain ⟨u1, e1_⟩ : ∃ u, u = scr a1 := ⟨_, rfl⟩
  obtain ⟨u2, e2_⟩ : ∃ u, u = cc a2 := ⟨_, rfl⟩
  obtain ⟨u3, e3_⟩ : ∃ u, u = scr a3 := ⟨_, rfl⟩
  obtain ⟨u4, e4_⟩ : ∃ u, u = scr a4 := ⟨_, rfl⟩
  obtain ⟨u5, e5_⟩ : ∃ u, u = cc a5 := ⟨_, rfl⟩
  obtain ⟨u6, e6_⟩ : ∃ u, u = scr a6 := ⟨_, rfl⟩
  obtain ⟨u7, e7_⟩ : ∃ u, u = scr a7 := ⟨_, rfl⟩
  obtain ⟨u8, e8_⟩ : ∃ u, u = cc a8 := ⟨_, rfl⟩
  have HCl : ∀ w : World, Calls Try.prog 38 #[mat a0 a1 a2 a3 a4 a5 a6 a7 a8] w (MatOut u0 u1 u2 u3 u4 u5 u6 u7 u8 w) := fun w => by rw [e0_, e1_, e2_, e3_, e4_, e5_, e6_, e7_, e8_]; exact l09P_any a0 a1 a2 a3 a4 a5 a6 a7 a8 w
  obtain ⟨q0, h0_⟩ : ∃ q, q = tbV 0 a0 a1 a2 a3 a4 a5 a6 a7 a8 := ⟨_, rfl⟩
  obtain ⟨q1, h1_⟩ : ∃ q, q = tbV 1 a0 a1 a2 a3 a4 a5 a6 a7 a8 := ⟨_, rfl⟩
  obtain ⟨q2, h2_⟩ : ∃ q, q = tbV 2 a0 a1 a2 a3 a4 a5 a6 a7 a8 := ⟨_, rfl⟩
  obtain ⟨q3, h3_⟩ : ∃ q, q = tbV 3 a0 a1 a2 a3 a4 a5 a6 a7 a8 := ⟨_, rfl⟩
  obtain ⟨q4, h4_⟩ : ∃ q, q = tbV 4 a0 a1 a2 a3 a4 a5 a6 a7 a8 := ⟨_, rfl⟩
  obtain ⟨q5, h5_⟩ : ∃ q, q = tbV 5 a0 a1 a2 a3 a4 a5 a6 a7 a8 := ⟨_, rfl⟩
  have HBP : ∀ (g : Nat) (w : World), RowC 3 vg w w.heap.size (some ⟨g, 0, none⟩) [(u0, u1, u2), (u3, u4, u5), (u6, u7, u8)] → Calls Try.prog 46 #[.slice (some ⟨g, 0, none⟩) 3 3] w fun e w' => e = .returned (.tuple #[box q0 q1 q2 q3 q4 q5, .bool true]) ∧ Below w.heap.size w w' := fun g w h => by
    rw [h0_, h1_, h2_, h3_, h4_, h5_]
    unfold tbV
    rw [← e0_, ← e1_, ← e2_, ← e3_, ← e4_, ← e5_, ← e6_, ← e7_, ← e8_]
    exact sBoundPoints_any _ 3 [(u0, u1, u2), (u3, u4, u5), (u6, u7, u8)] w h (by simp)
  rw [← h0_, ← h1_, ← h2_, ← h3_, ← h4_, ← h5_]
  clear h0_ h1_ h2_ h3_ h4_ h5_ e0_ e1_ e2_ e3_ e4_ e5_ e6_ e7_ e8_
  have HCl := Lib.hid HCl
  have HBP := Lib.hid HBP
  have HT : Held w ((w.alloc (.cells #[.int .i64 a0, .int .i64 a1, .int .i64 a2, .int .i64 a3, .int .i64 a4, .int .i64 a5, .int .i64 a6, .int .i64 a7, .int .i64 a8] 27)).alloc (.cells #[.int .i64 0, .int .i64 0, .int .i64 0, .int .i64 0, .int .i64 0, .int .i64 0] 36)) [(w.heap.size + 1, [.int .i64 0, .int .i64 0, .int .i64 0, .int .i64 0, .int .i64 0, .int .i64 0]), (w.heap.size, [.int .i64 a0, .int .i64 a1, .int .i64 a2, .int .i64 a3, .int .i64 a4, .int .i64 a5, .int .i64 a6, .int .i64 a7, .int .i64 a8])] := by
    have h := ((Held.nil w).new #[.int .i64 a0, .int .i64 a1, .int .i64 a2, .int .i64 a3, .int .i64 a4, .int .i64 a5, .int .i64 a6, .int .i64 a7, .int .i64 a8] 27).new #[.int .i64 0, .int .i64 0, .int .i64 0, .int .i64 0, .int .i64 0, .int .i64 0] 36
    simpa only [World.size_alloc] using h
  go_enter Try.func23, Try.ntmps23
  go_wp2_with fail
  refine (HCl.out _).mono ?_
  rintro e w1 ⟨rfl, hb1⟩
  have HT := (HT.later hb1).new #[.int .i64 u0, .int .i64 u1, .int .i64 u2, .int .i64 u3, .int .i64 u4, .int .i64 u5, .int .i64 u6, .int .i64 u7, .int .i64 u8] 25
  clear hb1
  go_upto_region 2 with fail
  generalize w1.alloc _ = W2 at HT ⊢
  generalize hk1 : w1.heap.size = k1 at HT ⊢
  clear hk1
  go_wp2_with fail
  refine (HBP.out _ _ (rowT (HT.box 0))).mono ?_
  rintro e w3 ⟨rfl, hb3⟩
  have HT := (HT.later hb3).new #[.int .i64 q0, .int .i64 q1, .int .i64 q2, .int .i64 q3, .int .i64 q4, .int .i64 q5] 36
  clear hb3 HBP
  go_upto_region 3 with fail
  generalize w3.alloc _ = W4 at HT ⊢
  generalize hk3 : w3.heap.size = k3 at HT ⊢
  clear hk3
  have c0 := (HT.box 0).c 0
  have c1 := (HT.box 0).c 1
  have c2 := (HT.box 0).c 2
  have c3 := (HT.box 0).c 3
  have c4 := (HT.box 0).c 4
  have c5 := (HT.box 0).c 5
  have HR := HT.pick (cs := [(w.heap.size + 1, [.int .i64 0, .int .i64 0, .int .i64 0, .int .i64 0, .int .i64 0, .int .i64 0])]) (by simp)
  have r0 := (HR.box 0).c 0
  have r1 := (HR.box 0).c 1
  have r2 := (HR.box 0).c 2
  have r3 := (HR.box 0).c 3
  have r4 := (HR.box 0).c 4
  have r5 := (HR.box 0).c 5
  have g0 := (HR.box 0).f 0
  have g1 := (HR.box 0).f 1
  have g2 := (HR.box 0).f 2
  have g3 := (HR.box 0).f 3
  have g4 := (HR.box 0).f 4
  have g5 := (HR.box 0).f 5
  have HW := HT.below
  clear HT HR
  go_wp2_with fail
  exact bodyPost_ret (v := box q0 q1 q2 q3 q4 q5) (by simp [results, Try.results23, go_sem, r0, r1, r2, r3, r4, r5]) rfl ⟨rfl, bset6 HW (by omega)⟩
end Go.Proofs.Ytjjafbcfmijppaa
