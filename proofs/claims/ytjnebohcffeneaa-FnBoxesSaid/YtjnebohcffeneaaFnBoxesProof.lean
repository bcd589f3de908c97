/-
  Proved: the law FnBoxes returns true for every input and its arguments read behind the call as they read before. Conditions: none of our own; those of the given row alone.
-/
import Derived.Test.YtjnebohcffeneaaRows
import Derived.WalkKit
import Derived.ProofKit
import Derived.OpenShut
import Derived.ShutString
import Derived.SliceStrings
import Derived.ChangeOld
import Derived.Below
import Derived.Test.YtjnebohcffeneaaMem
import Derived.Test.YtjnebohcffeneaaInts
import Derived.Test.YtjnebohcffeneaaIntS
import Derived.Test.YtjnebohcffeneaaCur
import Derived.Test.YtjnebohcffeneaaFlat
import Derived.Test.YtjnebohcffeneaaVbox
import Derived.Test.YtjnebohcffeneaaVec
import Derived.Test.YtjnebohcffeneaaVlaw
import Derived.Test.YtjnebohcffeneaaHeld
import Derived.Test.YtjnebohcffeneaaRowC
import Derived.Test.YtjnebohcffeneaaBox
import Derived.Test.YtjnebohcffeneaaBUnion
import Derived.Test.YtjnebohcffeneaaBPts
import Derived.Test.YtjnebohcffeneaaBCont
import Derived.Test.YtjnebohcffeneaaBExp
import Derived.Test.YtjnebohcffeneaaBOver
import Derived.Test.YtjnebohcffeneaaVAdd
import Derived.Test.YtjnebohcffeneaaVDraw
import Derived.Test.YtjnebohcffeneaaBDraw
import Derived.Handy
import Derived.Deep.RegionHeld3
namespace Go.Proofs.Ytjnebohcffeneaa.fnBoxes
open Go.ChangeShapes Go.WideShapes Go.ChangeAt Go.RowKit
open Go.ChangeMaps (open_string shut_string)
set_option linter.unusedVariables false

theorem own : ownKnob Try.prog.godebug = none := by kernel_rfl
theorem laidOut : laidOutB Try.prog = true := by kernel_rfl
/-- what the union of two small boxes is -/
theorem union_small {k0 k1 k2 k3 k4 k5 l0 l1 l2 l3 l4 l5 : Int} (h : SmallB k0 k1 k2 k3 k4 k5) (g : SmallB l0 l1 l2 l3 l4 l5) :
    (mnP (cc k0) (cc l0) ≤ k0 ∧ mnP (cc k1) (cc l1) ≤ k1 ∧ mnP (cc k2) (cc l2) ≤ k2) ∧ (mnP (cc k0) (cc l0) ≤ l0 ∧ mnP (cc k1) (cc l1) ≤ l1 ∧ mnP (cc k2) (cc l2) ≤ l2) ∧
    (k3 ≤ mxP (cc k3) (cc l3) ∧ k4 ≤ mxP (cc k4) (cc l4) ∧ k5 ≤ mxP (cc k5) (cc l5)) ∧ (l3 ≤ mxP (cc k3) (cc l3) ∧ l4 ≤ mxP (cc k4) (cc l4) ∧ l5 ≤ mxP (cc k5) (cc l5)) := by
  obtain ⟨a0, a1, a2⟩ := small_cc h.1
  obtain ⟨a3, a4, a5⟩ := small_cc h.2.1
  obtain ⟨b0, b1, b2⟩ := small_cc g.1
  obtain ⟨b3, b4, b5⟩ := small_cc g.2.1
  rw [a0, a1, a2, a3, a4, a5, b0, b1, b2, b3, b4, b5]
  have m0 := mnP_le k0 l0
  have m1 := mnP_le k1 l1
  have m2 := mnP_le k2 l2
  have n0 := mxP_ge k3 l3
  have n1 := mxP_ge k4 l4
  have n2 := mxP_ge k5 l5
  exact ⟨⟨m0.1, m1.1, m2.1⟩, ⟨m0.2.1, m1.2.1, m2.2.1⟩, ⟨n0.1, n1.1, n2.1⟩, ⟨n0.2.1, n1.2.1, n2.2.1⟩⟩
theorem pts_small {x y z p q r : Int} (h : Small x y z) (g : Small p q r) :
    (mnP (cc x) (cc p) ≤ x ∧ mnP (cc y) (cc q) ≤ y ∧ mnP (cc z) (cc r) ≤ z) ∧ (mnP (cc x) (cc p) ≤ p ∧ mnP (cc y) (cc q) ≤ q ∧ mnP (cc z) (cc r) ≤ r) ∧
    (x ≤ mxP (cc x) (cc p) ∧ y ≤ mxP (cc y) (cc q) ∧ z ≤ mxP (cc z) (cc r)) ∧ (p ≤ mxP (cc x) (cc p) ∧ q ≤ mxP (cc y) (cc q) ∧ r ≤ mxP (cc z) (cc r)) := by
  obtain ⟨a0, a1, a2⟩ := small_cc h
  obtain ⟨b0, b1, b2⟩ := small_cc g
  rw [a0, a1, a2, b0, b1, b2]
  have m0 := mnP_le x p
  have m1 := mnP_le y q
  have m2 := mnP_le z r
  have n0 := mxP_ge x p
  have n1 := mxP_ge y q
  have n2 := mxP_ge z r
  exact ⟨⟨m0.1, m1.1, m2.1⟩, ⟨m0.2.1, m1.2.1, m2.2.1⟩, ⟨n0.1, n1.1, n2.1⟩, ⟨n0.2.1, n1.2.1, n2.2.1⟩⟩
theorem cc_near {a b : Int} (ha : -1000 ≤ a ∧ a ≤ 1000) (hb : -1000 ≤ b ∧ b ≤ 1000) : cc (cc a - cc b) = a - b ∧ cc (cc a + cc b) = a + b := by
  rw [cc_in (n := a) (by omega) (by omega), cc_in (n := b) (by omega) (by omega)]
  exact ⟨cc_in (by omega) (by omega), cc_in (by omega) (by omega)⟩
theorem expand_small {a b c d e f : Int} (h : SmallB a b c d e f) (w : World) : Calls Try.prog 15 #[box a b c d e f, .int .i64 2] w (BoxOut (a - 2) (b - 2) (c - 2) (d + 2) (e + 2) (f + 2) w) := by
  obtain ⟨⟨h0, h1, h2⟩, ⟨h3, h4, h5⟩, _⟩ := h
  have H := expandBox_in a b c d e f 2 w (by omega) (by omega)
  rw [(cc_near h0 (b := 2) (by omega)).1, (cc_near h1 (b := 2) (by omega)).1, (cc_near h2 (b := 2) (by omega)).1, (cc_near h3 (b := 2) (by omega)).2, (cc_near h4 (b := 2) (by omega)).2, (cc_near h5 (b := 2) (by omega)).2] at H
  exact H
theorem add_two {x y z : Int} (h : Small x y z) (w : World) : Calls Try.prog 16 #[vec x y z, vec 2 0 0] w (VecOut (x + 2) y z w) := by
  obtain ⟨h0, h1, h2⟩ := h
  have H := add_any x y z 2 0 0 w
  rw [(cc_near h0 (b := 2) (by omega)).2, (cc_near h1 (b := 0) (by omega)).2, (cc_near h2 (b := 0) (by omega)).2, Int.add_zero, Int.add_zero] at H
  exact H
theorem ovB_yes {a b c d e f p q r s t u : Int} (h0 : a ≤ d ∧ b ≤ e ∧ c ≤ f) (h1 : a ≤ s ∧ b ≤ t ∧ c ≤ u) (h2 : p ≤ d ∧ q ≤ e ∧ r ≤ f) (h3 : p ≤ s ∧ q ≤ t ∧ r ≤ u) : ovB a b c d e f p q r s t u = true := by
  unfold ovB
  rw [(le3_iff ..).2 h0, (le3_iff ..).2 h1, (le3_iff ..).2 h2, (le3_iff ..).2 h3]; rfl
set_option maxRecDepth 100000 in
set_option maxHeartbeats 20000000 in
theorem walk (w : World) (a0 : Option Addr) (c0 : Nat) (x0 : List Int) (r0 : Row (Value.int .u8) w w.heap.size a0 x0) (m0 : x0.length ≤ maxLen) (w0 : ∀ x ∈ x0, (Lit.int .u8 x).wf = true) :
    Calls Try.prog 3 #[.slice a0 x0.length c0] w fun e w' => e = .returned (.bool true) ∧ Below w.heap.size w w' := by
  have H8 : Hid (∀ x ∈ x0, 0 ≤ x ∧ x ≤ 255) := Lib.hid (fun x hx => bounds_u8 (w0 x hx))
  have HR : Hid (Row U8 w w.heap.size a0 x0) := Lib.hid r0
  clear w0 r0
  by_cases hbig : x0.length ≤ 1048576
  · go_enter Try.func3, Try.ntmps3
    go_wp2_with fail
    refine (makeBox_any _ _ x0 _ _ HR.out H8.out hbig (by omega) (by omega)).mono ?_
    rintro e w1 ⟨k0, k1, k2, k3, k4, k5, hS, rfl, hb1⟩
    have HT := ((Held.nil w).later hb1).new #[.int .i64 k0, .int .i64 k1, .int .i64 k2, .int .i64 k3, .int .i64 k4, .int .i64 k5] 26
    have HR1 := Lib.hid (((HR.out.later hb1).alloc (Nat.le_refl _) (.cells #[.int .i64 k0, .int .i64 k1, .int .i64 k2, .int .i64 k3, .int .i64 k4, .int .i64 k5] 26)).more (B' := (w1.alloc (.cells #[.int .i64 k0, .int .i64 k1, .int .i64 k2, .int .i64 k3, .int .i64 k4, .int .i64 k5] 26)).heap.size) (by simp))
    have HSK := Lib.hid hS
    clear hb1 hS HR
    go_wp2_with fail
    refine (makeBox_any _ _ x0 _ _ HR1.out H8.out hbig (by omega) (by omega)).mono ?_
    rintro e w2 ⟨l0, l1, l2, l3, l4, l5, hS, rfl, hb2⟩
    have HT := (HT.later hb2).new #[.int .i64 l0, .int .i64 l1, .int .i64 l2, .int .i64 l3, .int .i64 l4, .int .i64 l5] 26
    have HR2 := Lib.hid (((HR1.out.later hb2).alloc (Nat.le_refl _) (.cells #[.int .i64 l0, .int .i64 l1, .int .i64 l2, .int .i64 l3, .int .i64 l4, .int .i64 l5] 26)).more (B' := (w2.alloc (.cells #[.int .i64 l0, .int .i64 l1, .int .i64 l2, .int .i64 l3, .int .i64 l4, .int .i64 l5] 26)).heap.size) (by simp))
    have HSL := Lib.hid hS
    clear hb2 hS HR1
    have d0 := (HT.box 0).c 0
    have d1 := (HT.box 0).c 1
    have d2 := (HT.box 0).c 2
    have d3 := (HT.box 0).c 3
    have d4 := (HT.box 0).c 4
    have d5 := (HT.box 0).c 5
    have c0 := (HT.box 1).c 0
    have c1 := (HT.box 1).c 1
    have c2 := (HT.box 1).c 2
    have c3 := (HT.box 1).c 3
    have c4 := (HT.box 1).c 4
    have c5 := (HT.box 1).c 5
    go_wp2_with fail
    refine (unionBox_any _ _ _ _ _ _ _ _ _ _ _ _ _).mono ?_
    rintro e w3 ⟨rfl, hb3⟩
    have HU := union_small HSK.out HSL.out
    obtain ⟨u0, hu0⟩ : ∃ q, q = mnP (cc k0) (cc l0) := ⟨_, rfl⟩
    obtain ⟨u1, hu1⟩ : ∃ q, q = mnP (cc k1) (cc l1) := ⟨_, rfl⟩
    obtain ⟨u2, hu2⟩ : ∃ q, q = mnP (cc k2) (cc l2) := ⟨_, rfl⟩
    obtain ⟨u3, hu3⟩ : ∃ q, q = mxP (cc k3) (cc l3) := ⟨_, rfl⟩
    obtain ⟨u4, hu4⟩ : ∃ q, q = mxP (cc k4) (cc l4) := ⟨_, rfl⟩
    obtain ⟨u5, hu5⟩ : ∃ q, q = mxP (cc k5) (cc l5) := ⟨_, rfl⟩
    rw [← hu0, ← hu1, ← hu2, ← hu3, ← hu4, ← hu5] at HU ⊢
    clear hu0 hu1 hu2 hu3 hu4 hu5
    have HT := (HT.later hb3).new #[.int .i64 u0, .int .i64 u1, .int .i64 u2, .int .i64 u3, .int .i64 u4, .int .i64 u5] 26
    have HR3 := Lib.hid (((HR2.out.later hb3).alloc (Nat.le_refl _) (.cells #[.int .i64 u0, .int .i64 u1, .int .i64 u2, .int .i64 u3, .int .i64 u4, .int .i64 u5] 26)).more (B' := (w3.alloc (.cells #[.int .i64 u0, .int .i64 u1, .int .i64 u2, .int .i64 u3, .int .i64 u4, .int .i64 u5] 26)).heap.size) (by simp))
    have HUH := Lib.hid HU
    clear hb3 HU HR2 c0 c1 c2 c3 c4 c5 d0 d1 d2 d3 d4 d5
    go_wp2_with fail
    refine (makeVec_any _ _ x0 _ _ HR3.out H8.out hbig (by omega) (by omega)).mono ?_
    rintro e w4 ⟨x0_, x1_, x2_, hS, rfl, hb4⟩
    have HT := (HT.later hb4).new #[.int .i64 x0_, .int .i64 x1_, .int .i64 x2_] 24
    have HR4 := Lib.hid (((HR3.out.later hb4).alloc (Nat.le_refl _) (.cells #[.int .i64 x0_, .int .i64 x1_, .int .i64 x2_] 24)).more (B' := (w4.alloc (.cells #[.int .i64 x0_, .int .i64 x1_, .int .i64 x2_] 24)).heap.size) (by simp))
    have HXS := Lib.hid hS
    clear hb4 hS HR3
    go_wp2_with fail
    refine (makeVec_any _ _ x0 _ _ HR4.out H8.out hbig (by omega) (by omega)).mono ?_
    rintro e w5 ⟨y0_, y1_, y2_, hS, rfl, hb5⟩
    have HT := (HT.later hb5).new #[.int .i64 y0_, .int .i64 y1_, .int .i64 y2_] 24
    have HYS := Lib.hid hS
    clear hb5 hS HR4 H8
    have d0 := (HT.box 0).c 0
    have d1 := (HT.box 0).c 1
    have d2 := (HT.box 0).c 2
    have c0 := (HT.box 1).c 0
    have c1 := (HT.box 1).c 1
    have c2 := (HT.box 1).c 2
    have HRow := Lib.hid (row2v (w5.alloc (.cells #[.int .i64 y0_, .int .i64 y1_, .int .i64 y2_] 24)) x0_ x1_ x2_ y0_ y1_ y2_ 24)
    have HT := HT.alloc (.cells #[.int .i64 x0_, .int .i64 x1_, .int .i64 x2_, .int .i64 y0_, .int .i64 y1_, .int .i64 y2_] 24)
    go_wp2_with fail
    refine (boundPoints_any _ _ [(x0_, x1_, x2_), (y0_, y1_, y2_)] _ (by simpa only [World.size_alloc] using HRow.out) (by simp) (by simp)).mono ?_
    rintro e w6 ⟨rfl, hb6⟩
    have ev : bdV (x0_, x1_, x2_) [(y0_, y1_, y2_)] = box (mnP (cc x0_) (cc y0_)) (mnP (cc x1_) (cc y1_)) (mnP (cc x2_) (cc y2_)) (mxP (cc x0_) (cc y0_)) (mxP (cc x1_) (cc y1_)) (mxP (cc x2_) (cc y2_)) := rfl
    rw [ev]
    clear ev HRow
    have HP := pts_small HXS.out HYS.out
    have HPS := small_join HXS.out HYS.out
    obtain ⟨p0_, hp0_⟩ : ∃ q, q = mnP (cc x0_) (cc y0_) := ⟨_, rfl⟩
    obtain ⟨p1_, hp1_⟩ : ∃ q, q = mnP (cc x1_) (cc y1_) := ⟨_, rfl⟩
    obtain ⟨p2_, hp2_⟩ : ∃ q, q = mnP (cc x2_) (cc y2_) := ⟨_, rfl⟩
    obtain ⟨p3_, hp3_⟩ : ∃ q, q = mxP (cc x0_) (cc y0_) := ⟨_, rfl⟩
    obtain ⟨p4_, hp4_⟩ : ∃ q, q = mxP (cc x1_) (cc y1_) := ⟨_, rfl⟩
    obtain ⟨p5_, hp5_⟩ : ∃ q, q = mxP (cc x2_) (cc y2_) := ⟨_, rfl⟩
    rw [← hp0_, ← hp1_, ← hp2_, ← hp3_, ← hp4_, ← hp5_] at HP HPS ⊢
    clear hp0_ hp1_ hp2_ hp3_ hp4_ hp5_
    have HT := (HT.later hb6).new #[.int .i64 p0_, .int .i64 p1_, .int .i64 p2_, .int .i64 p3_, .int .i64 p4_, .int .i64 p5_] 26
    clear hb6 c0 c1 c2 d0 d1 d2
    have HU := HUH.out
    obtain ⟨sk0, sk1, sk2, sk3, sk4⟩ := HSK.out
    obtain ⟨sl0, sl1, sl2, sl3, sl4⟩ := HSL.out
    obtain ⟨⟨hu0, hu1, hu2⟩, ⟨hu3, hu4, hu5⟩, ⟨hu6, hu7, hu8⟩, hu9, hu10, hu11⟩ := HU
    obtain ⟨⟨hp0, hp1, hp2⟩, ⟨hp3, hp4, hp5⟩, ⟨hp6, hp7, hp8⟩, hp9, hp10, hp11⟩ := HP
    have HK1 := Lib.hid (inB_yes (a := u0) (b := u1) (c := u2) (d := u3) (e := u4) (f := u5) (x := k0) (y := k1) (z := k2) ⟨⟨by omega, by omega⟩, ⟨by omega, by omega⟩, by omega, by omega⟩).symm
    have HK2 := Lib.hid (inB_yes (a := u0) (b := u1) (c := u2) (d := u3) (e := u4) (f := u5) (x := l3) (y := l4) (z := l5) ⟨⟨by omega, by omega⟩, ⟨by omega, by omega⟩, by omega, by omega⟩).symm
    have HK3 := Lib.hid (ovB_yes (a := k0) (b := k1) (c := k2) (d := k3) (e := k4) (f := k5) (p := u0) (q := u1) (r := u2) (s := u3) (t := u4) (u := u5) ⟨by omega, by omega, by omega⟩ ⟨by omega, by omega, by omega⟩ ⟨by omega, by omega, by omega⟩ ⟨by omega, by omega, by omega⟩)
    have HK5 := Lib.hid (inB_yes (a := p0_) (b := p1_) (c := p2_) (d := p3_) (e := p4_) (f := p5_) (x := x0_) (y := x1_) (z := x2_) ⟨⟨by omega, by omega⟩, ⟨by omega, by omega⟩, by omega, by omega⟩).symm
    have HK6 := Lib.hid (inB_yes (a := p0_) (b := p1_) (c := p2_) (d := p3_) (e := p4_) (f := p5_) (x := y0_) (y := y1_) (z := y2_) ⟨⟨by omega, by omega⟩, ⟨by omega, by omega⟩, by omega, by omega⟩).symm
    have HK7 := Lib.hid (inB_yes (a := p0_ - 2) (b := p1_ - 2) (c := p2_ - 2) (d := p3_ + 2) (e := p4_ + 2) (f := p5_ + 2) (x := x0_ + 2) (y := x1_) (z := x2_) ⟨⟨by omega, by omega⟩, ⟨by omega, by omega⟩, by omega, by omega⟩).symm
    obtain ⟨ob, hob⟩ : ∃ ob, ob = ovB k0 k1 k2 k3 k4 k5 l0 l1 l2 l3 l4 l5 := ⟨_, rfl⟩
    have HOB := Lib.hid hob
    have HK4 : Hid (ovB l0 l1 l2 l3 l4 l5 k0 k1 k2 k3 k4 k5 = ob) := Lib.hid ((ovB_comm k0 k1 k2 k3 k4 k5 l0 l1 l2 l3 l4 l5).trans hob.symm)
    have HPS := Lib.hid HPS
    clear hob sk0 sk1 sk2 sk3 sk4 sl0 sl1 sl2 sl3 sl4 hu0 hp0 hu1 hp1 hu2 hp2 hu3 hp3 hu4 hp4 hu5 hp5 hu6 hp6 hu7 hp7 hu8 hp8 hu9 hp9 hu10 hp10 hu11 hp11 HSK HSL HUH HYS
    have HT : Held w (w6.alloc (.cells #[.int .i64 p0_, .int .i64 p1_, .int .i64 p2_, .int .i64 p3_, .int .i64 p4_, .int .i64 p5_] 26)) [(w6.heap.size, [.int .i64 p0_, .int .i64 p1_, .int .i64 p2_, .int .i64 p3_, .int .i64 p4_, .int .i64 p5_]), (w5.heap.size, [.int .i64 y0_, .int .i64 y1_, .int .i64 y2_]), (w4.heap.size, [.int .i64 x0_, .int .i64 x1_, .int .i64 x2_]), (w3.heap.size, [.int .i64 u0, .int .i64 u1, .int .i64 u2, .int .i64 u3, .int .i64 u4, .int .i64 u5]), (w2.heap.size, [.int .i64 l0, .int .i64 l1, .int .i64 l2, .int .i64 l3, .int .i64 l4, .int .i64 l5]), (w1.heap.size, [.int .i64 k0, .int .i64 k1, .int .i64 k2, .int .i64 k3, .int .i64 k4, .int .i64 k5])] := HT
    have HC : ∀ W, Held w W [(w6.heap.size, [.int .i64 p0_, .int .i64 p1_, .int .i64 p2_, .int .i64 p3_, .int .i64 p4_, .int .i64 p5_]), (w5.heap.size, [.int .i64 y0_, .int .i64 y1_, .int .i64 y2_]), (w4.heap.size, [.int .i64 x0_, .int .i64 x1_, .int .i64 x2_]), (w3.heap.size, [.int .i64 u0, .int .i64 u1, .int .i64 u2, .int .i64 u3, .int .i64 u4, .int .i64 u5]), (w2.heap.size, [.int .i64 l0, .int .i64 l1, .int .i64 l2, .int .i64 l3, .int .i64 l4, .int .i64 l5]), (w1.heap.size, [.int .i64 k0, .int .i64 k1, .int .i64 k2, .int .i64 k3, .int .i64 k4, .int .i64 k5])] → (W.cell? ⟨w1.heap.size, 0, none⟩ = some (.int .i64 k0) ∧ W.cell? ⟨w1.heap.size, 1, none⟩ = some (.int .i64 k1) ∧ W.cell? ⟨w1.heap.size, 2, none⟩ = some (.int .i64 k2) ∧ W.cell? ⟨w1.heap.size, 3, none⟩ = some (.int .i64 k3) ∧ W.cell? ⟨w1.heap.size, 4, none⟩ = some (.int .i64 k4) ∧ W.cell? ⟨w1.heap.size, 5, none⟩ = some (.int .i64 k5) ∧ W.cell? ⟨w2.heap.size, 0, none⟩ = some (.int .i64 l0) ∧ W.cell? ⟨w2.heap.size, 1, none⟩ = some (.int .i64 l1) ∧ W.cell? ⟨w2.heap.size, 2, none⟩ = some (.int .i64 l2) ∧ W.cell? ⟨w2.heap.size, 3, none⟩ = some (.int .i64 l3) ∧ W.cell? ⟨w2.heap.size, 4, none⟩ = some (.int .i64 l4) ∧ W.cell? ⟨w2.heap.size, 5, none⟩ = some (.int .i64 l5) ∧ W.cell? ⟨w3.heap.size, 0, none⟩ = some (.int .i64 u0) ∧ W.cell? ⟨w3.heap.size, 1, none⟩ = some (.int .i64 u1) ∧ W.cell? ⟨w3.heap.size, 2, none⟩ = some (.int .i64 u2) ∧ W.cell? ⟨w3.heap.size, 3, none⟩ = some (.int .i64 u3) ∧ W.cell? ⟨w3.heap.size, 4, none⟩ = some (.int .i64 u4) ∧ W.cell? ⟨w3.heap.size, 5, none⟩ = some (.int .i64 u5) ∧ W.cell? ⟨w4.heap.size, 0, none⟩ = some (.int .i64 x0_) ∧ W.cell? ⟨w4.heap.size, 1, none⟩ = some (.int .i64 x1_) ∧ W.cell? ⟨w4.heap.size, 2, none⟩ = some (.int .i64 x2_) ∧ W.cell? ⟨w5.heap.size, 0, none⟩ = some (.int .i64 y0_) ∧ W.cell? ⟨w5.heap.size, 1, none⟩ = some (.int .i64 y1_) ∧ W.cell? ⟨w5.heap.size, 2, none⟩ = some (.int .i64 y2_) ∧ W.cell? ⟨w6.heap.size, 0, none⟩ = some (.int .i64 p0_) ∧ W.cell? ⟨w6.heap.size, 1, none⟩ = some (.int .i64 p1_) ∧ W.cell? ⟨w6.heap.size, 2, none⟩ = some (.int .i64 p2_) ∧ W.cell? ⟨w6.heap.size, 3, none⟩ = some (.int .i64 p3_) ∧ W.cell? ⟨w6.heap.size, 4, none⟩ = some (.int .i64 p4_) ∧ W.cell? ⟨w6.heap.size, 5, none⟩ = some (.int .i64 p5_)) := fun W h => ⟨(h.box 5).c 0, (h.box 5).c 1, (h.box 5).c 2, (h.box 5).c 3, (h.box 5).c 4, (h.box 5).c 5, (h.box 4).c 0, (h.box 4).c 1, (h.box 4).c 2, (h.box 4).c 3, (h.box 4).c 4, (h.box 4).c 5, (h.box 3).c 0, (h.box 3).c 1, (h.box 3).c 2, (h.box 3).c 3, (h.box 3).c 4, (h.box 3).c 5, (h.box 2).c 0, (h.box 2).c 1, (h.box 2).c 2, (h.box 1).c 0, (h.box 1).c 1, (h.box 1).c 2, (h.box 0).c 0, (h.box 0).c 1, (h.box 0).c 2, (h.box 0).c 3, (h.box 0).c 4, (h.box 0).c 5⟩
    go_upto_region 9 with fail
    generalize w6.alloc (.cells #[.int .i64 p0_, .int .i64 p1_, .int .i64 p2_, .int .i64 p3_, .int .i64 p4_, .int .i64 p5_] 26) = W at HT ⊢
    go_region_held3 (fun w' => w'.cell? ⟨w1.heap.size, 0, none⟩ = some (.int .i64 k0) ∧ w'.cell? ⟨w1.heap.size, 1, none⟩ = some (.int .i64 k1) ∧ w'.cell? ⟨w1.heap.size, 2, none⟩ = some (.int .i64 k2) ∧ w'.cell? ⟨w1.heap.size, 3, none⟩ = some (.int .i64 k3) ∧ w'.cell? ⟨w1.heap.size, 4, none⟩ = some (.int .i64 k4) ∧ w'.cell? ⟨w1.heap.size, 5, none⟩ = some (.int .i64 k5) ∧ w'.cell? ⟨w2.heap.size, 0, none⟩ = some (.int .i64 l0) ∧ w'.cell? ⟨w2.heap.size, 1, none⟩ = some (.int .i64 l1) ∧ w'.cell? ⟨w2.heap.size, 2, none⟩ = some (.int .i64 l2) ∧ w'.cell? ⟨w2.heap.size, 3, none⟩ = some (.int .i64 l3) ∧ w'.cell? ⟨w2.heap.size, 4, none⟩ = some (.int .i64 l4) ∧ w'.cell? ⟨w2.heap.size, 5, none⟩ = some (.int .i64 l5) ∧ w'.cell? ⟨w3.heap.size, 0, none⟩ = some (.int .i64 u0) ∧ w'.cell? ⟨w3.heap.size, 1, none⟩ = some (.int .i64 u1) ∧ w'.cell? ⟨w3.heap.size, 2, none⟩ = some (.int .i64 u2) ∧ w'.cell? ⟨w3.heap.size, 3, none⟩ = some (.int .i64 u3) ∧ w'.cell? ⟨w3.heap.size, 4, none⟩ = some (.int .i64 u4) ∧ w'.cell? ⟨w3.heap.size, 5, none⟩ = some (.int .i64 u5) ∧ w'.cell? ⟨w4.heap.size, 0, none⟩ = some (.int .i64 x0_) ∧ w'.cell? ⟨w4.heap.size, 1, none⟩ = some (.int .i64 x1_) ∧ w'.cell? ⟨w4.heap.size, 2, none⟩ = some (.int .i64 x2_) ∧ w'.cell? ⟨w5.heap.size, 0, none⟩ = some (.int .i64 y0_) ∧ w'.cell? ⟨w5.heap.size, 1, none⟩ = some (.int .i64 y1_) ∧ w'.cell? ⟨w5.heap.size, 2, none⟩ = some (.int .i64 y2_) ∧ w'.cell? ⟨w6.heap.size, 0, none⟩ = some (.int .i64 p0_) ∧ w'.cell? ⟨w6.heap.size, 1, none⟩ = some (.int .i64 p1_) ∧ w'.cell? ⟨w6.heap.size, 2, none⟩ = some (.int .i64 p2_) ∧ w'.cell? ⟨w6.heap.size, 3, none⟩ = some (.int .i64 p3_) ∧ w'.cell? ⟨w6.heap.size, 4, none⟩ = some (.int .i64 p4_) ∧ w'.cell? ⟨w6.heap.size, 5, none⟩ = some (.int .i64 p5_))
      (first | (with_reducible exact HC _ HT) | (with_reducible exact HC _ HT.drew))
      (first | (go_at_call 13; refine (boxContains_any _ _ _ _ _ _ _ _ _ _).mono ?_; rintro e w1 ⟨rfl, hb1⟩; (first | (have HT := HT.later hb1) | (have HT := HT.drew.later hb1)); (first | rw [HK1.out] | rw [HK2.out] | rw [HK5.out] | rw [HK6.out] | rw [HK7.out])) | (go_at_call 14; refine (boxesOverlap_any _ _ _ _ _ _ _ _ _ _ _ _ _).mono ?_; rintro e w1 ⟨rfl, hb1⟩; (first | (have HT := HT.later hb1) | (have HT := HT.drew.later hb1)); (first | rw [HK3.out] | rw [← HOB.out] | rw [HK4.out])) | (go_at_call 15; refine (expand_small HPS.out _).mono ?_; rintro e w1 ⟨rfl, hb1⟩; (first | (have HT := HT.later hb1) | (have HT := HT.drew.later hb1))) | (go_at_call 16; refine (add_two HXS.out _).mono ?_; rintro e w1 ⟨rfl, hb1⟩; (first | (have HT := HT.later hb1) | (have HT := HT.drew.later hb1))))
    go_wp2
    go_ret
    exact ⟨rfl, HT.below⟩
  · go_enter Try.func3, Try.ntmps3
    go_wp2_with fail
    go_ret
    exact ⟨rfl, Below.refl _ _⟩

set_option maxRecDepth 100000 in
theorem lifted (os : Os) (started : os.Started) (H : Type) (enc : TypeId × Value → H) :
    ReturnsInHanded {} Try.checked os 3 .any (Rows.fnBoxesSpec.pre6 enc Try.prog Try.f3 Rows.fnBoxesRow.domain false) (Rows.fnBoxesSpec.post enc Try.prog Try.f3 false true false false) := by
  refine returnsInHanded_of_change (C := Try.checked) own started (by kernel_rfl) Try.func3
    (ChangeSpec.witness6 (enc := enc) (C := Try.checked) false ⟨#[], #[.slice none 0 0], []⟩ 8 (by kernel_rfl) (by kernel_rfl) (by kernel_rfl) (by kernel_rfl)) ?_
  intro W base args ds gs before hval0 hW hcnd _
  have hval : ∀ (j : Nat) t v, Try.f3.params[j]? = some t → args[j]? = some v → Value.okWide Try.prog W .any base t v := hval0
  have hW' := hW
  obtain ⟨p, q, hA0, hV, rfl, hfz, hnd⟩ := hW
  have hA : DataW.TrodAll enc Try.prog W 0 (fun _ => true) true Try.f3.params.toList args.toList ds p := hA0
  rw [Try.params3] at hA hval
  obtain ⟨v0, vs0, d0, ds0, p0, q0, hargs, rfl, rfl, h0, r1000⟩ := trodAll_cons hA
  obtain ⟨rfl, rfl, rfl⟩ := trodAll_nil r1000
  obtain rfl : args = #[v0] := by cases args; simp_all
  obtain ⟨rfl, rfl⟩ := trodVars_none hV
  obtain ⟨a0, len0, cap0, rfl⟩ := okWide_slice Try.underlying22 (hval 0 22 v0 rfl rfl)
  have k0 := h0
  have lt0 : ∀ x ∈ p0, x.block < W.heap.size := by obtain ⟨m, hm⟩ := k0; exact DataW.trod_lt m _ _ _ hm
  obtain ⟨x0, rfl, r0, m0, w0⟩ : ∃ xs : List Int, len0 = xs.length ∧ Row (Value.int .u8) W W.heap.size a0 xs ∧ xs.length ≤ maxLen ∧ ∀ x ∈ xs, (Lit.int .u8 x).wf = true := by
    obtain ⟨fuel, hf⟩ := h0
    rcases open_ints Try.underlying22 Try.underlying5 (by kernel_rfl) hf with ⟨hcs, _⟩ | ⟨x, l, c, zs, hcs, _, hl, hm, hz, _, hcell, hwz⟩
    · simp [Value.cells] at hcs
      obtain ⟨rfl, rfl, rfl⟩ := hcs
      exact ⟨[], rfl, Row.nil, Nat.zero_le _, fun x hx => by cases hx⟩
    · simp [Value.cells] at hcs
      obtain ⟨rfl, rfl, rfl⟩ := hcs
      exact row_of_cells (d := (0 : Int)) hl hm (by simpa using hz) hcell hwz
  clear hA0
  refine (walk W a0 cap0 x0 r0 m0 w0).mono fun e W' ⟨he, bel⟩ => ?_
  subst he
  exact ⟨_, rfl, _, _, _, [], _, [], hW', trodAll_mk1 (shut_bool Try.underlying4 _), (trodAll_cons_mk (Below.trod laidOut (by kernel_rfl) (of_decide_eq_true (by kernel_rfl)) k0 bel lt0) trodAll_mk0), rfl, bel.frame _, fun h => by cases h⟩

theorem proved : Rows.FnBoxesSaid :=
  OpenClaim.holds_of_wide 3 Try.f3 rfl rfl rfl rfl rfl rfl rfl ⟨rfl, rfl, rfl, rfl, rfl⟩ rfl rfl rfl rfl rfl (by kernel_rfl) Try.func3 (by kernel_rfl)
    (of_decide_eq_true (by kernel_rfl)) (by unfold Func.isWrapper; first | (rw [if_pos (by decide +kernel)]; kernel_rfl) | (rw [if_neg (by decide +kernel)]; exact ⟨rfl, rfl⟩))
    (fun os started H enc _ => lifted os started H enc)
#print axioms proved
end Go.Proofs.Ytjnebohcffeneaa.fnBoxes
