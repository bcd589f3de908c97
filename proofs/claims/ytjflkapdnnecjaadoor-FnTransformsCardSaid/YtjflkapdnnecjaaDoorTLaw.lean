/- What the law on transforms asks: contracts with named answers. -/
import Derived.Test.YtjflkapdnnecjaaDoorProg
import Derived.Test.YtjflkapdnnecjaaDoorInts
import Derived.Test.YtjflkapdnnecjaaDoorVbox
import Derived.Test.YtjflkapdnnecjaaDoorVec
import Derived.Test.YtjflkapdnnecjaaDoorHeld
import Derived.Test.YtjflkapdnnecjaaDoorMem
import Derived.Test.YtjflkapdnnecjaaDoorFlat
import Derived.Test.YtjflkapdnnecjaaDoorRowC
import Derived.Test.YtjflkapdnnecjaaDoorArr
import Derived.Test.YtjflkapdnnecjaaDoorTr
import Derived.Test.YtjflkapdnnecjaaDoorTMat
import Derived.Test.YtjflkapdnnecjaaDoorVSubVec
import Derived.Test.YtjflkapdnnecjaaDoorVDot
import Derived.Test.YtjflkapdnnecjaaDoorVAdd
import Derived.Test.YtjflkapdnnecjaaDoorTAw
import Derived.Test.YtjflkapdnnecjaaDoorTApp
import Derived.Test.YtjflkapdnnecjaaDoorVecS
import Derived.Test.YtjflkapdnnecjaaDoorTAllA
import Derived.Test.YtjflkapdnnecjaaDoorTIden
import Derived.Test.YtjflkapdnnecjaaDoorTUni
import Derived.Test.YtjflkapdnnecjaaDoorTTra
import Derived.Test.YtjflkapdnnecjaaDoorTQi
import Derived.Test.YtjflkapdnnecjaaDoorVDraw
import Derived.WalkKit
import Derived.WalkSpells
import Derived.WalkLawsBesides
import Derived.Lib.Hide
import Derived.Deep.RegionHeld3
import Derived.Deep.QuietTactic
import Derived.BigQuiet
import Derived.Handy
import Derived.Deep.DeepCutAuto
namespace Go.Proofs.YtjflkapdnnecjaaDoor
open Go.RowKit

def Mid (x y z : Int) : Prop := (-2000 ≤ x ∧ x ≤ 2000) ∧ (-2000 ≤ y ∧ y ≤ 2000) ∧ (-2000 ≤ z ∧ z ≤ 2000)
theorem ap_is {a b c x y z o n : Int} (ha : -64 ≤ a ∧ a ≤ 64) (hb : -64 ≤ b ∧ b ≤ 64) (hc : -64 ≤ c ∧ c ≤ 64) (h : Mid x y z) (ho : -1000 ≤ o ∧ o ≤ 1000) (hn : -2000 ≤ n ∧ n ≤ 2000) (e : a * x + b * y + c * z = 16 * n) : apP a b c x y z o = n + o := by
  obtain ⟨⟨h0, h1⟩, ⟨h2, h3⟩, h4, h5⟩ := h
  unfold apP rowD
  rw [cc_in (n := a) (by omega) (by omega), cc_in (n := b) (by omega) (by omega), cc_in (n := c) (by omega) (by omega), cc_in (n := x) (by omega) (by omega), cc_in (n := y) (by omega) (by omega), cc_in (n := z) (by omega) (by omega), e]
  have hf : fdivP (16 * n) 16 = n := by unfold fdivP; rw [if_neg (by omega)]; omega
  rw [hf, cc_in (n := n) (by omega) (by omega), cc_in (n := o) (by omega) (by omega), cc_in (by omega) (by omega)]
theorem apT_of {v : V3} {a0 a1 a2 a3 a4 a5 a6 a7 a8 x y z n0 n1 n2 : Int} (ho : okT [a0, a1, a2, a3, a4, a5, a6, a7, a8] x y z = true) (e0 : apP a0 a1 a2 v.1 v.2.1 v.2.2 x = n0) (e1 : apP a3 a4 a5 v.1 v.2.1 v.2.2 y = n1) (e2 : apP a6 a7 a8 v.1 v.2.1 v.2.2 z = n2) :
    apT v ((a0, a1, a2), (a3, a4, a5), (a6, a7, a8), (x, y, z)) = (n0, n1, n2) := by
  unfold apT
  dsimp only
  rw [ho, e0, e1, e2]; rfl
theorem small_okB {x y z : Int} (h : Small x y z) : okB x y z = true := by
  obtain ⟨h0, h1, h2⟩ := h
  exact (okB_iff ..).2 ⟨by omega, by omega, by omega⟩
theorem small_neg {x y z : Int} (h : Small x y z) : Small (-x) (-y) (-z) := by
  obtain ⟨h0, h1, h2⟩ := h
  exact ⟨by omega, by omega, by omega⟩
theorem move_is {p q r x y z : Int} (hm : Mid p q r) (h : Small x y z) : apT (p, q, r) ((16, 0, 0), (0, 16, 0), (0, 0, 16), (x, y, z)) = (p + x, q + y, r + z) := by
  have hv := hm
  obtain ⟨g0, g1, g2⟩ := hm
  have hs := h
  obtain ⟨h0, h1, h2⟩ := h
  exact apT_of (by rw [okT_diag, small_okB hs]; rfl) (ap_is (by omega) (by omega) (by omega) hv h0 g0 (by dsimp only; omega)) (ap_is (by omega) (by omega) (by omega) hv h1 g1 (by dsimp only; omega)) (ap_is (by omega) (by omega) (by omega) hv h2 g2 (by dsimp only; omega))
theorem turn_0_1 {p q r : Int} (h : Small p q r) : apT (p, q, r) ((16, 0, 0), (0, 0, -16), (0, 16, 0), (0, 0, 0)) = (p, (-r), q) := by
  have hv : Mid p q r := by
    obtain ⟨h0, h1, h2⟩ := h
    exact ⟨by omega, by omega, by omega⟩
  obtain ⟨h0, h1, h2⟩ := h
  exact apT_of (by decide) ((ap_is (n := p) (by omega) (by omega) (by omega) hv (by omega) (by omega) (by omega)).trans (Int.add_zero _)) ((ap_is (n := (-r)) (by omega) (by omega) (by omega) hv (by omega) (by omega) (by omega)).trans (Int.add_zero _)) ((ap_is (n := q) (by omega) (by omega) (by omega) hv (by omega) (by omega) (by omega)).trans (Int.add_zero _))
theorem small_0_1 {p q r : Int} (h : Small p q r) : Small p (-r) q := by
  obtain ⟨h0, h1, h2⟩ := h
  exact ⟨by omega, by omega, by omega⟩
theorem turn_0_3 {p q r : Int} (h : Small p q r) : apT (p, q, r) ((16, 0, 0), (0, 0, 16), (0, -16, 0), (0, 0, 0)) = (p, r, (-q)) := by
  have hv : Mid p q r := by
    obtain ⟨h0, h1, h2⟩ := h
    exact ⟨by omega, by omega, by omega⟩
  obtain ⟨h0, h1, h2⟩ := h
  exact apT_of (by decide) ((ap_is (n := p) (by omega) (by omega) (by omega) hv (by omega) (by omega) (by omega)).trans (Int.add_zero _)) ((ap_is (n := r) (by omega) (by omega) (by omega) hv (by omega) (by omega) (by omega)).trans (Int.add_zero _)) ((ap_is (n := (-q)) (by omega) (by omega) (by omega) hv (by omega) (by omega) (by omega)).trans (Int.add_zero _))
theorem small_0_3 {p q r : Int} (h : Small p q r) : Small p r (-q) := by
  obtain ⟨h0, h1, h2⟩ := h
  exact ⟨by omega, by omega, by omega⟩
theorem turn_1_1 {p q r : Int} (h : Small p q r) : apT (p, q, r) ((0, 0, 16), (0, 16, 0), (-16, 0, 0), (0, 0, 0)) = (r, q, (-p)) := by
  have hv : Mid p q r := by
    obtain ⟨h0, h1, h2⟩ := h
    exact ⟨by omega, by omega, by omega⟩
  obtain ⟨h0, h1, h2⟩ := h
  exact apT_of (by decide) ((ap_is (n := r) (by omega) (by omega) (by omega) hv (by omega) (by omega) (by omega)).trans (Int.add_zero _)) ((ap_is (n := q) (by omega) (by omega) (by omega) hv (by omega) (by omega) (by omega)).trans (Int.add_zero _)) ((ap_is (n := (-p)) (by omega) (by omega) (by omega) hv (by omega) (by omega) (by omega)).trans (Int.add_zero _))
theorem small_1_1 {p q r : Int} (h : Small p q r) : Small r q (-p) := by
  obtain ⟨h0, h1, h2⟩ := h
  exact ⟨by omega, by omega, by omega⟩
theorem turn_1_3 {p q r : Int} (h : Small p q r) : apT (p, q, r) ((0, 0, -16), (0, 16, 0), (16, 0, 0), (0, 0, 0)) = ((-r), q, p) := by
  have hv : Mid p q r := by
    obtain ⟨h0, h1, h2⟩ := h
    exact ⟨by omega, by omega, by omega⟩
  obtain ⟨h0, h1, h2⟩ := h
  exact apT_of (by decide) ((ap_is (n := (-r)) (by omega) (by omega) (by omega) hv (by omega) (by omega) (by omega)).trans (Int.add_zero _)) ((ap_is (n := q) (by omega) (by omega) (by omega) hv (by omega) (by omega) (by omega)).trans (Int.add_zero _)) ((ap_is (n := p) (by omega) (by omega) (by omega) hv (by omega) (by omega) (by omega)).trans (Int.add_zero _))
theorem small_1_3 {p q r : Int} (h : Small p q r) : Small (-r) q p := by
  obtain ⟨h0, h1, h2⟩ := h
  exact ⟨by omega, by omega, by omega⟩
theorem turn_2_1 {p q r : Int} (h : Small p q r) : apT (p, q, r) ((0, -16, 0), (16, 0, 0), (0, 0, 16), (0, 0, 0)) = ((-q), p, r) := by
  have hv : Mid p q r := by
    obtain ⟨h0, h1, h2⟩ := h
    exact ⟨by omega, by omega, by omega⟩
  obtain ⟨h0, h1, h2⟩ := h
  exact apT_of (by decide) ((ap_is (n := (-q)) (by omega) (by omega) (by omega) hv (by omega) (by omega) (by omega)).trans (Int.add_zero _)) ((ap_is (n := p) (by omega) (by omega) (by omega) hv (by omega) (by omega) (by omega)).trans (Int.add_zero _)) ((ap_is (n := r) (by omega) (by omega) (by omega) hv (by omega) (by omega) (by omega)).trans (Int.add_zero _))
theorem small_2_1 {p q r : Int} (h : Small p q r) : Small (-q) p r := by
  obtain ⟨h0, h1, h2⟩ := h
  exact ⟨by omega, by omega, by omega⟩
theorem turn_2_3 {p q r : Int} (h : Small p q r) : apT (p, q, r) ((0, 16, 0), (-16, 0, 0), (0, 0, 16), (0, 0, 0)) = (q, (-p), r) := by
  have hv : Mid p q r := by
    obtain ⟨h0, h1, h2⟩ := h
    exact ⟨by omega, by omega, by omega⟩
  obtain ⟨h0, h1, h2⟩ := h
  exact apT_of (by decide) ((ap_is (n := q) (by omega) (by omega) (by omega) hv (by omega) (by omega) (by omega)).trans (Int.add_zero _)) ((ap_is (n := (-p)) (by omega) (by omega) (by omega) hv (by omega) (by omega) (by omega)).trans (Int.add_zero _)) ((ap_is (n := r) (by omega) (by omega) (by omega) hv (by omega) (by omega) (by omega)).trans (Int.add_zero _))
theorem small_2_3 {p q r : Int} (h : Small p q r) : Small q (-p) r := by
  obtain ⟨h0, h1, h2⟩ := h
  exact ⟨by omega, by omega, by omega⟩
set_option maxHeartbeats 2000000 in
theorem quarter_law (a p q r : Int) (ha : 0 ≤ a) (ha2 : a ≤ 2) (hs : Small p q r) : ∃ m0 m1 m2 m3 m4 m5 m6 m7 m8 n0 n1 n2 n3 n4 n5 n6 n7 n8 u0 u1 u2 : Int,
    (∀ w : World, Calls Tryd.prog 11 #[.int .i64 a, .int .i64 1] w (TrOut m0 m1 m2 m3 m4 m5 m6 m7 m8 0 0 0 w)) ∧
    (∀ w : World, Calls Tryd.prog 11 #[.int .i64 a, .int .i64 3] w (TrOut n0 n1 n2 n3 n4 n5 n6 n7 n8 0 0 0 w)) ∧
    (∀ w : World, Calls Tryd.prog 16 #[tr m0 m1 m2 m3 m4 m5 m6 m7 m8 0 0 0, vec p q r] w (VecOut u0 u1 u2 w)) ∧
    (∀ w : World, Calls Tryd.prog 16 #[tr n0 n1 n2 n3 n4 n5 n6 n7 n8 0 0 0, vec u0 u1 u2] w (VecOut p q r w)) ∧
    (∀ (A : Option Addr) (c : Nat) (w : World), RowC 12 tg w w.heap.size A [((m0, m1, m2), (m3, m4, m5), (m6, m7, m8), (0, 0, 0)), ((m0, m1, m2), (m3, m4, m5), (m6, m7, m8), (0, 0, 0)), ((m0, m1, m2), (m3, m4, m5), (m6, m7, m8), (0, 0, 0)), ((m0, m1, m2), (m3, m4, m5), (m6, m7, m8), (0, 0, 0))] → Calls Tryd.prog 15 #[.slice A 4 c, vec p q r] w (VecOut p q r w)) := by
  have h : a = 0 ∨ a = 1 ∨ a = 2 := by omega
  clear ha ha2
  rcases h with rfl | rfl | rfl
  · refine ⟨16, 0, 0, 0, 0, -16, 0, 16, 0, 16, 0, 0, 0, 0, 16, 0, -16, 0, p, (-r), q, ?_, ?_, ?_, ?_, ?_⟩
    · exact fun w => quarter_0_1 1 w (by omega) (by omega) (by omega)
    · exact fun w => quarter_0_3 3 w (by omega) (by omega) (by omega)
    · intro w
      have H := apply_v ((16, 0, 0), (0, 0, -16), (0, 16, 0), (0, 0, 0)) (p, q, r) w
      rw [turn_0_1 hs] at H
      exact H
    · intro w
      have H := apply_v ((16, 0, 0), (0, 0, 16), (0, -16, 0), (0, 0, 0)) (p, (-r), q) w
      have e := turn_0_3 (small_0_1 hs)
      simp only [Int.neg_neg] at e
      rw [e] at H
      exact H
    · intro A c w hR
      have H := applyAll_any A c [((16, 0, 0), (0, 0, -16), (0, 16, 0), (0, 0, 0)), ((16, 0, 0), (0, 0, -16), (0, 16, 0), (0, 0, 0)), ((16, 0, 0), (0, 0, -16), (0, 16, 0), (0, 0, 0)), ((16, 0, 0), (0, 0, -16), (0, 16, 0), (0, 0, 0))] p q r w hR (by simp)
      have e1 := turn_0_1 hs
      have s1 := small_0_1 hs
      have e2 := turn_0_1 s1
      have s2 := small_0_1 s1
      have e3 := turn_0_1 s2
      have s3 := small_0_1 s2
      have e4 := turn_0_1 s3
      simp only [Int.neg_neg] at e1 e2 e3 e4
      rw [show [((16, 0, 0), (0, 0, -16), (0, 16, 0), (0, 0, 0)), ((16, 0, 0), (0, 0, -16), (0, 16, 0), (0, 0, 0)), ((16, 0, 0), (0, 0, -16), (0, 16, 0), (0, 0, 0)), ((16, 0, 0), (0, 0, -16), (0, 16, 0), (0, 0, 0))].foldl apT (p, q, r) = apT (apT (apT (apT (p, q, r) ((16, 0, 0), (0, 0, -16), (0, 16, 0), (0, 0, 0))) ((16, 0, 0), (0, 0, -16), (0, 16, 0), (0, 0, 0))) ((16, 0, 0), (0, 0, -16), (0, 16, 0), (0, 0, 0))) ((16, 0, 0), (0, 0, -16), (0, 16, 0), (0, 0, 0)) from rfl, e1, e2, e3, e4] at H
      exact H
  · refine ⟨0, 0, 16, 0, 16, 0, -16, 0, 0, 0, 0, -16, 0, 16, 0, 16, 0, 0, r, q, (-p), ?_, ?_, ?_, ?_, ?_⟩
    · exact fun w => quarter_1_1 1 w (by omega) (by omega) (by omega)
    · exact fun w => quarter_1_3 3 w (by omega) (by omega) (by omega)
    · intro w
      have H := apply_v ((0, 0, 16), (0, 16, 0), (-16, 0, 0), (0, 0, 0)) (p, q, r) w
      rw [turn_1_1 hs] at H
      exact H
    · intro w
      have H := apply_v ((0, 0, -16), (0, 16, 0), (16, 0, 0), (0, 0, 0)) (r, q, (-p)) w
      have e := turn_1_3 (small_1_1 hs)
      simp only [Int.neg_neg] at e
      rw [e] at H
      exact H
    · intro A c w hR
      have H := applyAll_any A c [((0, 0, 16), (0, 16, 0), (-16, 0, 0), (0, 0, 0)), ((0, 0, 16), (0, 16, 0), (-16, 0, 0), (0, 0, 0)), ((0, 0, 16), (0, 16, 0), (-16, 0, 0), (0, 0, 0)), ((0, 0, 16), (0, 16, 0), (-16, 0, 0), (0, 0, 0))] p q r w hR (by simp)
      have e1 := turn_1_1 hs
      have s1 := small_1_1 hs
      have e2 := turn_1_1 s1
      have s2 := small_1_1 s1
      have e3 := turn_1_1 s2
      have s3 := small_1_1 s2
      have e4 := turn_1_1 s3
      simp only [Int.neg_neg] at e1 e2 e3 e4
      rw [show [((0, 0, 16), (0, 16, 0), (-16, 0, 0), (0, 0, 0)), ((0, 0, 16), (0, 16, 0), (-16, 0, 0), (0, 0, 0)), ((0, 0, 16), (0, 16, 0), (-16, 0, 0), (0, 0, 0)), ((0, 0, 16), (0, 16, 0), (-16, 0, 0), (0, 0, 0))].foldl apT (p, q, r) = apT (apT (apT (apT (p, q, r) ((0, 0, 16), (0, 16, 0), (-16, 0, 0), (0, 0, 0))) ((0, 0, 16), (0, 16, 0), (-16, 0, 0), (0, 0, 0))) ((0, 0, 16), (0, 16, 0), (-16, 0, 0), (0, 0, 0))) ((0, 0, 16), (0, 16, 0), (-16, 0, 0), (0, 0, 0)) from rfl, e1, e2, e3, e4] at H
      exact H
  · refine ⟨0, -16, 0, 16, 0, 0, 0, 0, 16, 0, 16, 0, -16, 0, 0, 0, 0, 16, (-q), p, r, ?_, ?_, ?_, ?_, ?_⟩
    · exact fun w => quarter_2_1 1 w (by omega) (by omega) (by omega)
    · exact fun w => quarter_2_3 3 w (by omega) (by omega) (by omega)
    · intro w
      have H := apply_v ((0, -16, 0), (16, 0, 0), (0, 0, 16), (0, 0, 0)) (p, q, r) w
      rw [turn_2_1 hs] at H
      exact H
    · intro w
      have H := apply_v ((0, 16, 0), (-16, 0, 0), (0, 0, 16), (0, 0, 0)) ((-q), p, r) w
      have e := turn_2_3 (small_2_1 hs)
      simp only [Int.neg_neg] at e
      rw [e] at H
      exact H
    · intro A c w hR
      have H := applyAll_any A c [((0, -16, 0), (16, 0, 0), (0, 0, 16), (0, 0, 0)), ((0, -16, 0), (16, 0, 0), (0, 0, 16), (0, 0, 0)), ((0, -16, 0), (16, 0, 0), (0, 0, 16), (0, 0, 0)), ((0, -16, 0), (16, 0, 0), (0, 0, 16), (0, 0, 0))] p q r w hR (by simp)
      have e1 := turn_2_1 hs
      have s1 := small_2_1 hs
      have e2 := turn_2_1 s1
      have s2 := small_2_1 s1
      have e3 := turn_2_1 s2
      have s3 := small_2_1 s2
      have e4 := turn_2_1 s3
      simp only [Int.neg_neg] at e1 e2 e3 e4
      rw [show [((0, -16, 0), (16, 0, 0), (0, 0, 16), (0, 0, 0)), ((0, -16, 0), (16, 0, 0), (0, 0, 16), (0, 0, 0)), ((0, -16, 0), (16, 0, 0), (0, 0, 16), (0, 0, 0)), ((0, -16, 0), (16, 0, 0), (0, 0, 16), (0, 0, 0))].foldl apT (p, q, r) = apT (apT (apT (apT (p, q, r) ((0, -16, 0), (16, 0, 0), (0, 0, 16), (0, 0, 0))) ((0, -16, 0), (16, 0, 0), (0, 0, 16), (0, 0, 0))) ((0, -16, 0), (16, 0, 0), (0, 0, 16), (0, 0, 0))) ((0, -16, 0), (16, 0, 0), (0, 0, 16), (0, 0, 0)) from rfl, e1, e2, e3, e4] at H
      exact H
set_option maxHeartbeats 2000000 in
theorem move_law (p q r x y z : Int) (hs : Small p q r) (hw : Small x y z) : ∃ b0 b1 b2 : Int,
    (∀ w : World, Calls Tryd.prog 14 #[vec 0 0 0, vec x y z] w (VecOut b0 b1 b2 w)) ∧
    (∀ w : World, Calls Tryd.prog 17 #[vec x y z] w (TrOut 16 0 0 0 16 0 0 0 16 x y z w)) ∧
    (∀ w : World, Calls Tryd.prog 17 #[vec b0 b1 b2] w (TrOut 16 0 0 0 16 0 0 0 16 b0 b1 b2 w)) ∧
    (∀ (A : Option Addr) (c : Nat) (w : World), RowC 12 tg w w.heap.size A [((16, 0, 0), (0, 16, 0), (0, 0, 16), (x, y, z)), ((16, 0, 0), (0, 16, 0), (0, 0, 16), (b0, b1, b2))] → Calls Tryd.prog 15 #[.slice A 2 c, vec p q r] w (VecOut p q r w)) ∧
    (∀ w : World, Calls Tryd.prog 16 #[tr 16 0 0 0 16 0 0 0 16 0 0 0, vec p q r] w (VecOut p q r w)) := by
  have hm : Mid p q r := by
    obtain ⟨h0, h1, h2⟩ := hs
    exact ⟨by omega, by omega, by omega⟩
  refine ⟨-x, -y, -z, ?_, ?_, ?_, ?_, ?_⟩
  · intro w
    have H := subVec_any 0 0 0 x y z w
    obtain ⟨h0, h1, h2⟩ := hw
    rw [cc_in (n := 0) (by omega) (by omega), cc_in (n := x) (by omega) (by omega), cc_in (n := y) (by omega) (by omega), cc_in (n := z) (by omega) (by omega), cc_in (n := 0 - x) (by omega) (by omega), cc_in (n := 0 - y) (by omega) (by omega), cc_in (n := 0 - z) (by omega) (by omega), Int.zero_sub, Int.zero_sub, Int.zero_sub] at H
    exact H
  · exact fun w => translation_yes x y z w (small_okB hw)
  · exact fun w => translation_yes (-x) (-y) (-z) w (small_okB (small_neg hw))
  · intro A c w hR
    have H := applyAll_any A c [((16, 0, 0), (0, 16, 0), (0, 0, 16), (x, y, z)), ((16, 0, 0), (0, 16, 0), (0, 0, 16), ((-x), (-y), (-z)))] p q r w hR (by simp)
    have hm2 : Mid (p + x) (q + y) (r + z) := by
      obtain ⟨h0, h1, h2⟩ := hs
      obtain ⟨h3, h4, h5⟩ := hw
      exact ⟨by omega, by omega, by omega⟩
    rw [show [((16, 0, 0), (0, 16, 0), (0, 0, 16), (x, y, z)), ((16, 0, 0), (0, 16, 0), (0, 0, 16), ((-x), (-y), (-z)))].foldl apT (p, q, r) = apT (apT (p, q, r) ((16, 0, 0), (0, 16, 0), (0, 0, 16), (x, y, z))) ((16, 0, 0), (0, 16, 0), (0, 0, 16), ((-x), (-y), (-z))) from rfl, move_is hm hw, move_is hm2 (small_neg hw), show p + x + -x = p by omega, show q + y + -y = q by omega, show r + z + -z = r by omega] at H
    exact H
  · intro w
    have H := apply_v ((16, 0, 0), (0, 16, 0), (0, 0, 16), (0, 0, 0)) (p, q, r) w
    rw [move_is hm (x := 0) (y := 0) (z := 0) ⟨by omega, by omega, by omega⟩, Int.add_zero, Int.add_zero, Int.add_zero] at H
    exact H
theorem veqT_d (d : Nat) (a b c p q r : Int) (w : World) : (Op.equalIn (d + 2) 24 (vec a b c) (vec p q r)).run Tryd.prog w = .ok (veqB a b c p q r) w := by
  have u3 := Tryd.underlying3
  have a3 := Tryd.isAgg3
  have z3 := Tryd.sizeOf3
  have hS : Tryd.prog.underlying 24 = some (.struct (Tryd.prog.fieldsOf 24)) := by kernel_rfl
  have hp : Tryd.prog.stoodInHeld 24 = false := by kernel_rfl
  rw [show (d + 2 : Nat) = (d + 1) + 1 from rfl, run_equalIn_agg w (d + 1) 24 _ _ hS hp]
  simp only [Program.fieldsOf, Tryd.underlying24]
  unfold veqB
  go_simp
  by_cases h1 : a = p <;> by_cases h2 : b = q <;> by_cases h3 : c = r <;> simp [h1, h2, h3]
theorem veq_selfQ (a b c : Int) (w : World) : (binOp .eql 24 (vec a b c) (vec a b c)).run Tryd.prog w = .ok (.bool true) w := by
  rw [veq_run]; simp [veqB]
theorem veq_selfI (a b c : Int) (w : World) : (Op.equalIn 10000 24 (vec a b c) (vec a b c)).run Tryd.prog w = .ok true w := by
  rw [veq_in]; simp [veqB]
theorem tr_selfI (a0 a1 a2 a3 a4 a5 a6 a7 a8 x y z : Int) (w : World) : (Op.equalIn 10000 26 (tr a0 a1 a2 a3 a4 a5 a6 a7 a8 x y z) (tr a0 a1 a2 a3 a4 a5 a6 a7 a8 x y z)).run Tryd.prog w = .ok true w := by
  have hS : Tryd.prog.underlying 26 = some (.struct (Tryd.prog.fieldsOf 26)) := by kernel_rfl
  have hp : Tryd.prog.stoodInHeld 26 = false := by kernel_rfl
  have px : ∀ (c0 c1 c2 c3 c4 c5 c6 c7 c8 c9 c10 c11 : Value) (w : World),
      (part 22 #[c0, c1, c2, c3, c4, c5, c6, c7, c8, c9, c10, c11] 0).run Tryd.prog w = .ok (.agg #[c0, c1, c2, c3, c4, c5, c6, c7, c8]) w := fun _ _ _ _ _ _ _ _ _ _ _ _ _ => by kernel_rfl
  have py : ∀ (c0 c1 c2 c3 c4 c5 c6 c7 c8 c9 c10 c11 : Value) (w : World),
      (part 24 #[c0, c1, c2, c3, c4, c5, c6, c7, c8, c9, c10, c11] 9).run Tryd.prog w = .ok (.agg #[c9, c10, c11]) w := fun _ _ _ _ _ _ _ _ _ _ _ _ _ => by kernel_rfl
  have h1 : ∀ w, (Op.equalIn 9999 22 (mat a0 a1 a2 a3 a4 a5 a6 a7 a8) (mat a0 a1 a2 a3 a4 a5 a6 a7 a8)).run Tryd.prog w = .ok true w := fun w => by
    have := equalIn_ints (P := Tryd.prog) w 9997 22 3 9 Tryd.underlying22 Tryd.underlying3 (fun w => by kernel_rfl) [a0, a1, a2, a3, a4, a5, a6, a7, a8] [a0, a1, a2, a3, a4, a5, a6, a7, a8] rfl rfl
    simpa using this
  have h2 : ∀ w, (Op.equalIn 9999 24 (vec x y z) (vec x y z)).run Tryd.prog w = .ok true w := fun w => by
    have := veqT_d 9997 x y z x y z w
    simpa [veqB] using this
  rw [show (10000 : Nat) = 9999 + 1 from rfl, run_equalIn_agg w 9999 26 _ _ hS hp]
  simp only [Program.fieldsOf, Tryd.underlying26]
  simp [Op.eqFields, px, py, h1, h2]
theorem tr_selfQ (a0 a1 a2 a3 a4 a5 a6 a7 a8 x y z : Int) (w : World) : (binOp .eql 26 (tr a0 a1 a2 a3 a4 a5 a6 a7 a8 x y z) (tr a0 a1 a2 a3 a4 a5 a6 a7 a8 x y z)).run Tryd.prog w = .ok (.bool true) w := by
  rw [run_eql_struct, tr_selfI]; rfl
theorem row4t (w : World) (a0 a1 a2 a3 a4 a5 a6 a7 a8 a9 a10 a11 b0 b1 b2 b3 b4 b5 b6 b7 b8 b9 b10 b11 c0 c1 c2 c3 c4 c5 c6 c7 c8 c9 c10 c11 d0 d1 d2 d3 d4 d5 d6 d7 d8 d9 d10 d11 : Int) : RowC 12 tg (w.alloc (.cells #[.int .i64 a0, .int .i64 a1, .int .i64 a2, .int .i64 a3, .int .i64 a4, .int .i64 a5, .int .i64 a6, .int .i64 a7, .int .i64 a8, .int .i64 a9, .int .i64 a10, .int .i64 a11, .int .i64 b0, .int .i64 b1, .int .i64 b2, .int .i64 b3, .int .i64 b4, .int .i64 b5, .int .i64 b6, .int .i64 b7, .int .i64 b8, .int .i64 b9, .int .i64 b10, .int .i64 b11, .int .i64 c0, .int .i64 c1, .int .i64 c2, .int .i64 c3, .int .i64 c4, .int .i64 c5, .int .i64 c6, .int .i64 c7, .int .i64 c8, .int .i64 c9, .int .i64 c10, .int .i64 c11, .int .i64 d0, .int .i64 d1, .int .i64 d2, .int .i64 d3, .int .i64 d4, .int .i64 d5, .int .i64 d6, .int .i64 d7, .int .i64 d8, .int .i64 d9, .int .i64 d10, .int .i64 d11] 26)) (w.alloc (.cells #[.int .i64 a0, .int .i64 a1, .int .i64 a2, .int .i64 a3, .int .i64 a4, .int .i64 a5, .int .i64 a6, .int .i64 a7, .int .i64 a8, .int .i64 a9, .int .i64 a10, .int .i64 a11, .int .i64 b0, .int .i64 b1, .int .i64 b2, .int .i64 b3, .int .i64 b4, .int .i64 b5, .int .i64 b6, .int .i64 b7, .int .i64 b8, .int .i64 b9, .int .i64 b10, .int .i64 b11, .int .i64 c0, .int .i64 c1, .int .i64 c2, .int .i64 c3, .int .i64 c4, .int .i64 c5, .int .i64 c6, .int .i64 c7, .int .i64 c8, .int .i64 c9, .int .i64 c10, .int .i64 c11, .int .i64 d0, .int .i64 d1, .int .i64 d2, .int .i64 d3, .int .i64 d4, .int .i64 d5, .int .i64 d6, .int .i64 d7, .int .i64 d8, .int .i64 d9, .int .i64 d10, .int .i64 d11] 26)).heap.size (some ⟨w.heap.size, 0, none⟩) [((a0, a1, a2), (a3, a4, a5), (a6, a7, a8), (a9, a10, a11)), ((b0, b1, b2), (b3, b4, b5), (b6, b7, b8), (b9, b10, b11)), ((c0, c1, c2), (c3, c4, c5), (c6, c7, c8), (c9, c10, c11)), ((d0, d1, d2), (d3, d4, d5), (d6, d7, d8), (d9, d10, d11))] := fun _ => by
  have V := Mbox.new w #[.int .i64 a0, .int .i64 a1, .int .i64 a2, .int .i64 a3, .int .i64 a4, .int .i64 a5, .int .i64 a6, .int .i64 a7, .int .i64 a8, .int .i64 a9, .int .i64 a10, .int .i64 a11, .int .i64 b0, .int .i64 b1, .int .i64 b2, .int .i64 b3, .int .i64 b4, .int .i64 b5, .int .i64 b6, .int .i64 b7, .int .i64 b8, .int .i64 b9, .int .i64 b10, .int .i64 b11, .int .i64 c0, .int .i64 c1, .int .i64 c2, .int .i64 c3, .int .i64 c4, .int .i64 c5, .int .i64 c6, .int .i64 c7, .int .i64 c8, .int .i64 c9, .int .i64 c10, .int .i64 c11, .int .i64 d0, .int .i64 d1, .int .i64 d2, .int .i64 d3, .int .i64 d4, .int .i64 d5, .int .i64 d6, .int .i64 d7, .int .i64 d8, .int .i64 d9, .int .i64 d10, .int .i64 d11] 26
  refine ⟨w.heap.size, 0, rfl, by simp, fun k hk j v hv => ?_⟩
  match k, hk with
  | 0, _ => exact V.c (0 + 0 * 12 + j) (by
      match j, hv with
      | 0, hv => exact hv
      | 1, hv => exact hv
      | 2, hv => exact hv
      | 3, hv => exact hv
      | 4, hv => exact hv
      | 5, hv => exact hv
      | 6, hv => exact hv
      | 7, hv => exact hv
      | 8, hv => exact hv
      | 9, hv => exact hv
      | 10, hv => exact hv
      | 11, hv => exact hv)
  | 1, _ => exact V.c (0 + 1 * 12 + j) (by
      match j, hv with
      | 0, hv => exact hv
      | 1, hv => exact hv
      | 2, hv => exact hv
      | 3, hv => exact hv
      | 4, hv => exact hv
      | 5, hv => exact hv
      | 6, hv => exact hv
      | 7, hv => exact hv
      | 8, hv => exact hv
      | 9, hv => exact hv
      | 10, hv => exact hv
      | 11, hv => exact hv)
  | 2, _ => exact V.c (0 + 2 * 12 + j) (by
      match j, hv with
      | 0, hv => exact hv
      | 1, hv => exact hv
      | 2, hv => exact hv
      | 3, hv => exact hv
      | 4, hv => exact hv
      | 5, hv => exact hv
      | 6, hv => exact hv
      | 7, hv => exact hv
      | 8, hv => exact hv
      | 9, hv => exact hv
      | 10, hv => exact hv
      | 11, hv => exact hv)
  | 3, _ => exact V.c (0 + 3 * 12 + j) (by
      match j, hv with
      | 0, hv => exact hv
      | 1, hv => exact hv
      | 2, hv => exact hv
      | 3, hv => exact hv
      | 4, hv => exact hv
      | 5, hv => exact hv
      | 6, hv => exact hv
      | 7, hv => exact hv
      | 8, hv => exact hv
      | 9, hv => exact hv
      | 10, hv => exact hv
      | 11, hv => exact hv)
theorem row2t (w : World) (a0 a1 a2 a3 a4 a5 a6 a7 a8 a9 a10 a11 b0 b1 b2 b3 b4 b5 b6 b7 b8 b9 b10 b11 : Int) : RowC 12 tg (w.alloc (.cells #[.int .i64 a0, .int .i64 a1, .int .i64 a2, .int .i64 a3, .int .i64 a4, .int .i64 a5, .int .i64 a6, .int .i64 a7, .int .i64 a8, .int .i64 a9, .int .i64 a10, .int .i64 a11, .int .i64 b0, .int .i64 b1, .int .i64 b2, .int .i64 b3, .int .i64 b4, .int .i64 b5, .int .i64 b6, .int .i64 b7, .int .i64 b8, .int .i64 b9, .int .i64 b10, .int .i64 b11] 26)) (w.alloc (.cells #[.int .i64 a0, .int .i64 a1, .int .i64 a2, .int .i64 a3, .int .i64 a4, .int .i64 a5, .int .i64 a6, .int .i64 a7, .int .i64 a8, .int .i64 a9, .int .i64 a10, .int .i64 a11, .int .i64 b0, .int .i64 b1, .int .i64 b2, .int .i64 b3, .int .i64 b4, .int .i64 b5, .int .i64 b6, .int .i64 b7, .int .i64 b8, .int .i64 b9, .int .i64 b10, .int .i64 b11] 26)).heap.size (some ⟨w.heap.size, 0, none⟩) [((a0, a1, a2), (a3, a4, a5), (a6, a7, a8), (a9, a10, a11)), ((b0, b1, b2), (b3, b4, b5), (b6, b7, b8), (b9, b10, b11))] := fun _ => by
  have V := Mbox.new w #[.int .i64 a0, .int .i64 a1, .int .i64 a2, .int .i64 a3, .int .i64 a4, .int .i64 a5, .int .i64 a6, .int .i64 a7, .int .i64 a8, .int .i64 a9, .int .i64 a10, .int .i64 a11, .int .i64 b0, .int .i64 b1, .int .i64 b2, .int .i64 b3, .int .i64 b4, .int .i64 b5, .int .i64 b6, .int .i64 b7, .int .i64 b8, .int .i64 b9, .int .i64 b10, .int .i64 b11] 26
  refine ⟨w.heap.size, 0, rfl, by simp, fun k hk j v hv => ?_⟩
  match k, hk with
  | 0, _ => exact V.c (0 + 0 * 12 + j) (by
      match j, hv with
      | 0, hv => exact hv
      | 1, hv => exact hv
      | 2, hv => exact hv
      | 3, hv => exact hv
      | 4, hv => exact hv
      | 5, hv => exact hv
      | 6, hv => exact hv
      | 7, hv => exact hv
      | 8, hv => exact hv
      | 9, hv => exact hv
      | 10, hv => exact hv
      | 11, hv => exact hv)
  | 1, _ => exact V.c (0 + 1 * 12 + j) (by
      match j, hv with
      | 0, hv => exact hv
      | 1, hv => exact hv
      | 2, hv => exact hv
      | 3, hv => exact hv
      | 4, hv => exact hv
      | 5, hv => exact hv
      | 6, hv => exact hv
      | 7, hv => exact hv
      | 8, hv => exact hv
      | 9, hv => exact hv
      | 10, hv => exact hv
      | 11, hv => exact hv)
end Go.Proofs.YtjflkapdnnecjaaDoor
