/- Contracts of l08Draw and MakeCamera: some valid camera of a small picture. -/
import Derived.Test.YtolinlcihddkoabProg
import Derived.Test.YtolinlcihddkoabMem
import Derived.Test.YtolinlcihddkoabInts
import Derived.Test.YtolinlcihddkoabIntS
import Derived.Test.YtolinlcihddkoabCur
import Derived.Test.YtolinlcihddkoabVbox
import Derived.Test.YtolinlcihddkoabVec
import Derived.Test.YtolinlcihddkoabHeld
import Derived.Test.YtolinlcihddkoabCam
import Derived.Test.YtolinlcihddkoabVDraw
import Derived.WalkKit
import Derived.WalkSpells
import Derived.WalkLawsBesides
import Derived.Lib.Hide
import Derived.Handy
namespace Go.Proofs.Ytolinlcihddkoab
open Go.RowKit

/-- a camera that is drawn -/
theorem gb_farP {a b : World} {row : Option Nat} {k i : Nat} (h : a.grownBy b row) (hk : a.heap.size ≤ k) (v : Value) : a.grownBy (b.setCell ⟨k, i, none⟩ v) row :=
  ⟨h.os, h.tape, h.output, by simpa using h.size, fun j hj hr => (Below.heap_setCell b _ v j (fun e => by simp at e; omega)).trans (h.block j hj hr)⟩
theorem bset7P {B k : Nat} {a w : World} {x y z p q r s : Value} (h : Below B a w) (hk : B ≤ k) : Below B a (((((((w.setCell ⟨k, 0, none⟩ x).setCell ⟨k, 1, none⟩ y).setCell ⟨k, 2, none⟩ z).setCell ⟨k, 3, none⟩ p).setCell ⟨k, 4, none⟩ q).setCell ⟨k, 5, none⟩ r).setCell ⟨k, 6, none⟩ s) :=
  ((((((h.setCell (p := ⟨k, 0, none⟩) hk x).setCell (p := ⟨k, 1, none⟩) hk y).setCell (p := ⟨k, 2, none⟩) hk z).setCell (p := ⟨k, 3, none⟩) hk p).setCell (p := ⟨k, 4, none⟩) hk q).setCell (p := ⟨k, 5, none⟩) hk r).setCell (p := ⟨k, 6, none⟩) hk s
def CamGood (a b c d f g : Int) : Prop := (2 ≤ a ∧ a ≤ 5) ∧ (2 ≤ b ∧ b ≤ 5) ∧ (60 ≤ c ∧ c ≤ 259) ∧ (20 ≤ d ∧ d ≤ 79) ∧ (0 ≤ f ∧ f ≤ 47) ∧ (0 ≤ g ∧ g ≤ 259)
theorem camGood_ok {a b c d f g : Int} (h : CamGood a b c d f g) : okC a b c d f g = true := by
  unfold CamGood at h
  exact (okC_iff ..).2 ⟨⟨by omega, by omega⟩, ⟨by omega, by omega⟩, by omega, by omega⟩
def CamDrawn (B k : Nat) (w : World) (E : Ending) (w' : World) : Prop := ∃ (a b c d : Int) (e : Bool) (f g : Int), CamGood a b c d f g ∧ E = .returned (cam a b c d e f g) ∧ Cur w' B k ∧ Below B w w' ∧ w.grownBy w' (some k)
def CamMade (w : World) (E : Ending) (w' : World) : Prop := ∃ (a b c d : Int) (e : Bool) (f g : Int), CamGood a b c d f g ∧ E = .returned (cam a b c d e f g) ∧ Below w.heap.size w w'
theorem Mbox.grownC {w w' : World} {k g : Nat} {vs : List Value} (h : Mbox w k vs) (hg : w.grownBy w' (some g)) (hk : k ≠ g) : Mbox w' k vs := h.keep fun hl => hg.block k hl (fun e => by injection e with e; exact hk e)
theorem Cur.putC {W : World} {B g q i : Nat} (h : Cur W B g) (hq : B ≤ q) (hne : q ≠ g) (v : Value) : Cur (W.setCell ⟨q, i, none⟩ v) B g :=
  h.keep (row := some q) (gb_set (gb_refl _ _) _) (fun r e => by injection e with e; omega) (fun e => by injection e with e; exact hne e)
theorem Cur.allocC {W : World} {B g : Nat} (h : Cur W B g) (o : Obj) : Cur (W.alloc o) B g := h.keep (gb_of_below ((Below.refl _ _).alloc (Nat.le_refl _) _) (row := none)) (fun r h => by cases h) (by simp)
theorem gb_alloc (W : World) (o : Obj) (row : Option Nat) : W.grownBy (W.alloc o) row := gb_of_below ((Below.refl _ _).alloc (Nat.le_refl _) _)
/-- a drawing under way: the cursor k, the result's block r, what the variable's block q holds -/
structure DS (w W : World) (B k r q : Nat) (zs vs : List Value) : Prop where
  cur : Cur W B k
  res : Mbox W r zs
  var : Mbox W q vs
  bel : Below B w W
  siz : B ≤ W.heap.size
  gb : w.grownBy W (some k)
  rk : r ≠ k
  qk : q ≠ k
  qr : r ≠ q
  wr : w.heap.size ≤ r
  wq : w.heap.size ≤ q
  Bw : B ≤ w.heap.size
theorem DS.grow {w W W' : World} {B k r q : Nat} {zs vs : List Value} (h : DS w W B k r q zs vs) (hC : Cur W' B k) (hg : W.grownBy W' (some k)) : DS w W' B k r q zs vs :=
  ⟨hC, h.res.grownC hg h.rk, h.var.grownC hg h.qk, h.bel.grown hg h.siz (fun j e => by injection e with e; have := hC.ge; omega), Nat.le_trans h.siz hg.size, gb_trans h.gb hg, h.rk, h.qk, h.qr, h.wr, h.wq, h.Bw⟩
theorem DS.put {w W : World} {B k r q : Nat} {zs vs : List Value} (h : DS w W B k r q zs vs) (i : Nat) (v : Value) : DS w (W.setCell ⟨q, i, none⟩ v) B k r q zs (vs.set i v) := by
  have hB := h.Bw
  have hq := h.wq
  exact ⟨h.cur.putC (by omega) h.qk v, h.res.far h.qr v, h.var.put i v, h.bel.setCell (p := ⟨q, i, none⟩) (by show B ≤ q; omega) v, by simpa using h.siz, gb_farP h.gb hq v, h.rk, h.qk, h.qr, h.wr, h.wq, h.Bw⟩
/-- the same at the result's block: seven stores -/
theorem DS.out7 {w W : World} {B k r q : Nat} {zs vs : List Value} (h : DS w W B k r q zs vs) (v0 v1 v2 v3 v4 v5 v6 : Value) :
    Cur (((((((W.setCell ⟨r, 0, none⟩ v0).setCell ⟨r, 1, none⟩ v1).setCell ⟨r, 2, none⟩ v2).setCell ⟨r, 3, none⟩ v3).setCell ⟨r, 4, none⟩ v4).setCell ⟨r, 5, none⟩ v5).setCell ⟨r, 6, none⟩ v6) B k ∧
    Below B w (((((((W.setCell ⟨r, 0, none⟩ v0).setCell ⟨r, 1, none⟩ v1).setCell ⟨r, 2, none⟩ v2).setCell ⟨r, 3, none⟩ v3).setCell ⟨r, 4, none⟩ v4).setCell ⟨r, 5, none⟩ v5).setCell ⟨r, 6, none⟩ v6) ∧
    w.grownBy (((((((W.setCell ⟨r, 0, none⟩ v0).setCell ⟨r, 1, none⟩ v1).setCell ⟨r, 2, none⟩ v2).setCell ⟨r, 3, none⟩ v3).setCell ⟨r, 4, none⟩ v4).setCell ⟨r, 5, none⟩ v5).setCell ⟨r, 6, none⟩ v6) (some k) := by
  have hB := h.Bw
  have hr := h.wr
  have hb : B ≤ r := by omega
  exact ⟨((((((h.cur.putC hb h.rk _).putC hb h.rk _).putC hb h.rk _).putC hb h.rk _).putC hb h.rk _).putC hb h.rk _).putC hb h.rk _, bset7P h.bel hb,
    gb_farP (gb_farP (gb_farP (gb_farP (gb_farP (gb_farP (gb_farP h.gb hr _) hr _) hr _) hr _) hr _) hr _) hr _⟩
theorem once8_any (B g : Nat) (n : Int) (w : World) (hC : Cur w B g) (hn : 1 ≤ n) (hn2 : n ≤ 256) :
    Calls Try.prog 23 #[.pointer (some ⟨g, 0, none⟩), .int .i64 n] w fun e w' => ∃ b : Bool, e = .returned (.bool b) ∧ Cur w' B g ∧ w.grownBy w' (some g) := by
  go_enter Try.func23, Try.ntmps23
  go_wp2_with fail
  refine (below_any B g n _ hC hn (by omega)).mono ?_
  rintro e w1 ⟨x, xl, xh, rfl, hC1, hg1⟩
  go_wp2_with fail
  go_ret
  exact ⟨_, rfl, hC1, hg1⟩

set_option maxRecDepth 100000 in
set_option maxHeartbeats 8000000 in
theorem draw8_any (B k : Nat) (w : World) (hC : Cur w B k) (hB : B ≤ w.heap.size) :
    Calls Try.prog 9 #[.pointer (some ⟨k, 0, none⟩)] w (CamDrawn B k w) := by
  have hge := hC.ge
  have hgl := hC.lt
  have HR : Mbox (w.alloc (.cells #[.int .i64 0, .int .i64 0, .int .i64 0, .int .i64 0, .bool false, .int .i64 0, .int .i64 0] 24)) w.heap.size [.int .i64 0, .int .i64 0, .int .i64 0, .int .i64 0, .bool false, .int .i64 0, .int .i64 0] := Mbox.new w #[.int .i64 0, .int .i64 0, .int .i64 0, .int .i64 0, .bool false, .int .i64 0, .int .i64 0] 24
  have HW : Below B w (w.alloc (.cells #[.int .i64 0, .int .i64 0, .int .i64 0, .int .i64 0, .bool false, .int .i64 0, .int .i64 0] 24)) := (Below.refl _ _).alloc hB _
  have GB : w.grownBy (w.alloc (.cells #[.int .i64 0, .int .i64 0, .int .i64 0, .int .i64 0, .bool false, .int .i64 0, .int .i64 0] 24)) (some k) := gb_alloc _ _ _
  have HC := Lib.hid (hC.allocC (.cells #[.int .i64 0, .int .i64 0, .int .i64 0, .int .i64 0, .bool false, .int .i64 0, .int .i64 0] 24))
  have hz : B ≤ (w.alloc (.cells #[.int .i64 0, .int .i64 0, .int .i64 0, .int .i64 0, .bool false, .int .i64 0, .int .i64 0] 24)).heap.size := by simp; omega
  clear hC
  go_enter Try.func9, Try.ntmps9
  go_wp2_with fail
  refine (below_any B k 4 _ HC.out (by omega) (by omega)).mono ?_
  rintro E w1 ⟨p0, p00, p01, rfl, hC1, hg1⟩
  have HR := HR.grownC hg1 (by omega)
  have HW := HW.grown hg1 hz (fun k h => by injection h with h; omega)
  have GB := gb_trans GB hg1
  have hz := Nat.le_trans hz hg1.size
  have HC := Lib.hid hC1
  clear hC1 hg1
  go_wp2_with fail
  refine (below_any B k 4 _ HC.out (by omega) (by omega)).mono ?_
  rintro E w1 ⟨p1, p10, p11, rfl, hC1, hg1⟩
  have HR := HR.grownC hg1 (by omega)
  have HW := HW.grown hg1 hz (fun k h => by injection h with h; omega)
  have GB := gb_trans GB hg1
  have hz := Nat.le_trans hz hg1.size
  have HC := Lib.hid hC1
  clear hC1 hg1
  go_wp2_with fail
  refine (below_any B k 200 _ HC.out (by omega) (by omega)).mono ?_
  rintro E w1 ⟨p2, p20, p21, rfl, hC1, hg1⟩
  have HR := HR.grownC hg1 (by omega)
  have HW := HW.grown hg1 hz (fun k h => by injection h with h; omega)
  have GB := gb_trans GB hg1
  have hz := Nat.le_trans hz hg1.size
  have HC := Lib.hid hC1
  clear hC1 hg1
  go_wp2_with fail
  refine (below_any B k 60 _ HC.out (by omega) (by omega)).mono ?_
  rintro E w1 ⟨p3, p30, p31, rfl, hC1, hg1⟩
  have HR := HR.grownC hg1 (by omega)
  have HW := HW.grown hg1 hz (fun k h => by injection h with h; omega)
  have GB := gb_trans GB hg1
  have hz := Nat.le_trans hz hg1.size
  have HC := Lib.hid hC1
  clear hC1 hg1
  have hrl := HR.lt
  have HD : DS w (w1.alloc (.cells #[.int .i64 (2 + p0), .int .i64 (2 + p1), .int .i64 (60 + p2), .int .i64 (20 + p3), .bool false, .int .i64 0, .int .i64 0] 24)) B k w.heap.size w1.heap.size [.int .i64 0, .int .i64 0, .int .i64 0, .int .i64 0, .bool false, .int .i64 0, .int .i64 0] [.int .i64 (2 + p0), .int .i64 (2 + p1), .int .i64 (60 + p2), .int .i64 (20 + p3), .bool false, .int .i64 0, .int .i64 0] :=
    ⟨HC.out.allocC _, HR.alloc _, Mbox.new w1 #[.int .i64 (2 + p0), .int .i64 (2 + p1), .int .i64 (60 + p2), .int .i64 (20 + p3), .bool false, .int .i64 0, .int .i64 0] 24, HW.alloc hz _, by simp; omega, gb_trans GB (gb_alloc _ _ _), by omega, by omega, by omega, Nat.le_refl _, by omega, hB⟩
  have HD := Lib.hid HD
  clear HC HR HW GB hz
  go_wp2_with fail
  generalize w1.heap.size = q at HD hrl ⊢
  have HQ := Lib.hid hrl
  clear hrl
  refine (once8_any B k 2 _ HD.out.cur (by omega) (by omega)).mono ?_
  rintro E w1 ⟨b2, rfl, hC1, hg1⟩
  have HD := Lib.hid (HD.out.grow hC1 hg1)
  clear hC1 hg1
  cases b2
  · skip
    go_wp2_with fail
    refine (once8_any B k 3 _ HD.out.cur (by omega) (by omega)).mono ?_
    rintro E w1 ⟨b3, rfl, hC1, hg1⟩
    have HD := Lib.hid (HD.out.grow hC1 hg1)
    clear hC1 hg1
    cases b3
    · have x0 := HD.out.var.c 0
      have y0 := HD.out.var.f 0
      have x1 := HD.out.var.c 1
      have y1 := HD.out.var.f 1
      have x2 := HD.out.var.c 2
      have y2 := HD.out.var.f 2
      have x3 := HD.out.var.c 3
      have y3 := HD.out.var.f 3
      have x4 := HD.out.var.c 4
      have y4 := HD.out.var.f 4
      have x5 := HD.out.var.c 5
      have y5 := HD.out.var.f 5
      have x6 := HD.out.var.c 6
      have y6 := HD.out.var.f 6
      have r0 := HD.out.res.c 0
      have fr0 := HD.out.res.f 0
      have r1 := HD.out.res.c 1
      have fr1 := HD.out.res.f 1
      have r2 := HD.out.res.c 2
      have fr2 := HD.out.res.f 2
      have r3 := HD.out.res.c 3
      have fr3 := HD.out.res.f 3
      have r4 := HD.out.res.c 4
      have fr4 := HD.out.res.f 4
      have r5 := HD.out.res.c 5
      have fr5 := HD.out.res.f 5
      have r6 := HD.out.res.c 6
      have fr6 := HD.out.res.f 6
      go_wp2_with fail
      have HO := HD.out.out7 (.int .i64 (2 + p0)) (.int .i64 (2 + p1)) (.int .i64 (60 + p2)) (.int .i64 (20 + p3)) (.bool false) (.int .i64 0) (.int .i64 0)
      exact bodyPost_ret (v := cam (2 + p0) (2 + p1) (60 + p2) (20 + p3) false 0 0) (by simp [results, Try.results9, go_sem, r0, r1, r2, r3, r4, r5, r6]) rfl
        ⟨2 + p0, 2 + p1, 60 + p2, 20 + p3, false, 0, 0, ⟨by omega, by omega, by omega, by omega, by omega, by omega⟩, rfl, HO⟩
    · go_wp2_with fail
      refine (below_any B k 40 _ HD.out.cur (by omega) (by omega)).mono ?_
      rintro E w1 ⟨p5, p50, p51, rfl, hC1, hg1⟩
      have HD := Lib.hid (HD.out.grow hC1 hg1)
      clear hC1 hg1
      have x0 := HD.out.var.c 0
      have y0 := HD.out.var.f 0
      have x1 := HD.out.var.c 1
      have y1 := HD.out.var.f 1
      have x2 := HD.out.var.c 2
      have y2 := HD.out.var.f 2
      have x3 := HD.out.var.c 3
      have y3 := HD.out.var.f 3
      have x4 := HD.out.var.c 4
      have y4 := HD.out.var.f 4
      have x5 := HD.out.var.c 5
      have y5 := HD.out.var.f 5
      have x6 := HD.out.var.c 6
      have y6 := HD.out.var.f 6
      have HD := Lib.hid (HD.out.put 5 (.int .i64 (8 + p5)))
      simp only [List.set_cons_zero, List.set_cons_succ] at HD
      go_wp2_with fail
      clear x0 y0 x1 y1 x2 y2 x3 y3 x4 y4 x5 y5 x6 y6
      refine (below_any B k 200 _ HD.out.cur (by omega) (by omega)).mono ?_
      rintro E w1 ⟨p6, p60, p61, rfl, hC1, hg1⟩
      have HD := Lib.hid (HD.out.grow hC1 hg1)
      clear hC1 hg1
      have x0 := HD.out.var.c 0
      have y0 := HD.out.var.f 0
      have x1 := HD.out.var.c 1
      have y1 := HD.out.var.f 1
      have x2 := HD.out.var.c 2
      have y2 := HD.out.var.f 2
      have x3 := HD.out.var.c 3
      have y3 := HD.out.var.f 3
      have x4 := HD.out.var.c 4
      have y4 := HD.out.var.f 4
      have x5 := HD.out.var.c 5
      have y5 := HD.out.var.f 5
      have x6 := HD.out.var.c 6
      have y6 := HD.out.var.f 6
      have HD := Lib.hid (HD.out.put 6 (.int .i64 (60 + p6)))
      simp only [List.set_cons_zero, List.set_cons_succ] at HD
      have z0 := HD.out.var.c 0
      have z1 := HD.out.var.c 1
      have z2 := HD.out.var.c 2
      have z3 := HD.out.var.c 3
      have z4 := HD.out.var.c 4
      have z5 := HD.out.var.c 5
      have z6 := HD.out.var.c 6
      have r0 := HD.out.res.c 0
      have fr0 := HD.out.res.f 0
      have r1 := HD.out.res.c 1
      have fr1 := HD.out.res.f 1
      have r2 := HD.out.res.c 2
      have fr2 := HD.out.res.f 2
      have r3 := HD.out.res.c 3
      have fr3 := HD.out.res.f 3
      have r4 := HD.out.res.c 4
      have fr4 := HD.out.res.f 4
      have r5 := HD.out.res.c 5
      have fr5 := HD.out.res.f 5
      have r6 := HD.out.res.c 6
      have fr6 := HD.out.res.f 6
      go_wp2_with fail
      have HO := HD.out.out7 (.int .i64 (2 + p0)) (.int .i64 (2 + p1)) (.int .i64 (60 + p2)) (.int .i64 (20 + p3)) (.bool false) (.int .i64 (8 + p5)) (.int .i64 (60 + p6))
      exact bodyPost_ret (v := cam (2 + p0) (2 + p1) (60 + p2) (20 + p3) false (8 + p5) (60 + p6)) (by simp [results, Try.results9, go_sem, r0, r1, r2, r3, r4, r5, r6]) rfl
        ⟨2 + p0, 2 + p1, 60 + p2, 20 + p3, false, 8 + p5, 60 + p6, ⟨by omega, by omega, by omega, by omega, by omega, by omega⟩, rfl, HO⟩
  · have x0 := HD.out.var.c 0
    have y0 := HD.out.var.f 0
    have x1 := HD.out.var.c 1
    have y1 := HD.out.var.f 1
    have x2 := HD.out.var.c 2
    have y2 := HD.out.var.f 2
    have x3 := HD.out.var.c 3
    have y3 := HD.out.var.f 3
    have x4 := HD.out.var.c 4
    have y4 := HD.out.var.f 4
    have x5 := HD.out.var.c 5
    have y5 := HD.out.var.f 5
    have x6 := HD.out.var.c 6
    have y6 := HD.out.var.f 6
    have HD := Lib.hid (HD.out.put 4 (.bool true))
    simp only [List.set_cons_zero, List.set_cons_succ] at HD
    go_wp2_with fail
    clear x0 y0 x1 y1 x2 y2 x3 y3 x4 y4 x5 y5 x6 y6
    refine (below_any B k 120 _ HD.out.cur (by omega) (by omega)).mono ?_
    rintro E w1 ⟨p4, p40, p41, rfl, hC1, hg1⟩
    have HD := Lib.hid (HD.out.grow hC1 hg1)
    clear hC1 hg1
    have x0 := HD.out.var.c 0
    have y0 := HD.out.var.f 0
    have x1 := HD.out.var.c 1
    have y1 := HD.out.var.f 1
    have x2 := HD.out.var.c 2
    have y2 := HD.out.var.f 2
    have x3 := HD.out.var.c 3
    have y3 := HD.out.var.f 3
    have x4 := HD.out.var.c 4
    have y4 := HD.out.var.f 4
    have x5 := HD.out.var.c 5
    have y5 := HD.out.var.f 5
    have x6 := HD.out.var.c 6
    have y6 := HD.out.var.f 6
    have HD := Lib.hid (HD.out.put 2 (.int .i64 (60 + p4)))
    simp only [List.set_cons_zero, List.set_cons_succ] at HD
    go_wp2_with fail
    clear x0 y0 x1 y1 x2 y2 x3 y3 x4 y4 x5 y5 x6 y6
    go_wp2_with fail
    refine (once8_any B k 3 _ HD.out.cur (by omega) (by omega)).mono ?_
    rintro E w1 ⟨b3, rfl, hC1, hg1⟩
    have HD := Lib.hid (HD.out.grow hC1 hg1)
    clear hC1 hg1
    cases b3
    · have x0 := HD.out.var.c 0
      have y0 := HD.out.var.f 0
      have x1 := HD.out.var.c 1
      have y1 := HD.out.var.f 1
      have x2 := HD.out.var.c 2
      have y2 := HD.out.var.f 2
      have x3 := HD.out.var.c 3
      have y3 := HD.out.var.f 3
      have x4 := HD.out.var.c 4
      have y4 := HD.out.var.f 4
      have x5 := HD.out.var.c 5
      have y5 := HD.out.var.f 5
      have x6 := HD.out.var.c 6
      have y6 := HD.out.var.f 6
      have r0 := HD.out.res.c 0
      have fr0 := HD.out.res.f 0
      have r1 := HD.out.res.c 1
      have fr1 := HD.out.res.f 1
      have r2 := HD.out.res.c 2
      have fr2 := HD.out.res.f 2
      have r3 := HD.out.res.c 3
      have fr3 := HD.out.res.f 3
      have r4 := HD.out.res.c 4
      have fr4 := HD.out.res.f 4
      have r5 := HD.out.res.c 5
      have fr5 := HD.out.res.f 5
      have r6 := HD.out.res.c 6
      have fr6 := HD.out.res.f 6
      go_wp2_with fail
      have HO := HD.out.out7 (.int .i64 (2 + p0)) (.int .i64 (2 + p1)) (.int .i64 (60 + p4)) (.int .i64 (20 + p3)) (.bool true) (.int .i64 0) (.int .i64 0)
      exact bodyPost_ret (v := cam (2 + p0) (2 + p1) (60 + p4) (20 + p3) true 0 0) (by simp [results, Try.results9, go_sem, r0, r1, r2, r3, r4, r5, r6]) rfl
        ⟨2 + p0, 2 + p1, 60 + p4, 20 + p3, true, 0, 0, ⟨by omega, by omega, by omega, by omega, by omega, by omega⟩, rfl, HO⟩
    · go_wp2_with fail
      refine (below_any B k 40 _ HD.out.cur (by omega) (by omega)).mono ?_
      rintro E w1 ⟨p5, p50, p51, rfl, hC1, hg1⟩
      have HD := Lib.hid (HD.out.grow hC1 hg1)
      clear hC1 hg1
      have x0 := HD.out.var.c 0
      have y0 := HD.out.var.f 0
      have x1 := HD.out.var.c 1
      have y1 := HD.out.var.f 1
      have x2 := HD.out.var.c 2
      have y2 := HD.out.var.f 2
      have x3 := HD.out.var.c 3
      have y3 := HD.out.var.f 3
      have x4 := HD.out.var.c 4
      have y4 := HD.out.var.f 4
      have x5 := HD.out.var.c 5
      have y5 := HD.out.var.f 5
      have x6 := HD.out.var.c 6
      have y6 := HD.out.var.f 6
      have HD := Lib.hid (HD.out.put 5 (.int .i64 (8 + p5)))
      simp only [List.set_cons_zero, List.set_cons_succ] at HD
      go_wp2_with fail
      clear x0 y0 x1 y1 x2 y2 x3 y3 x4 y4 x5 y5 x6 y6
      refine (below_any B k 200 _ HD.out.cur (by omega) (by omega)).mono ?_
      rintro E w1 ⟨p6, p60, p61, rfl, hC1, hg1⟩
      have HD := Lib.hid (HD.out.grow hC1 hg1)
      clear hC1 hg1
      have x0 := HD.out.var.c 0
      have y0 := HD.out.var.f 0
      have x1 := HD.out.var.c 1
      have y1 := HD.out.var.f 1
      have x2 := HD.out.var.c 2
      have y2 := HD.out.var.f 2
      have x3 := HD.out.var.c 3
      have y3 := HD.out.var.f 3
      have x4 := HD.out.var.c 4
      have y4 := HD.out.var.f 4
      have x5 := HD.out.var.c 5
      have y5 := HD.out.var.f 5
      have x6 := HD.out.var.c 6
      have y6 := HD.out.var.f 6
      have HD := Lib.hid (HD.out.put 6 (.int .i64 (60 + p6)))
      simp only [List.set_cons_zero, List.set_cons_succ] at HD
      have z0 := HD.out.var.c 0
      have z1 := HD.out.var.c 1
      have z2 := HD.out.var.c 2
      have z3 := HD.out.var.c 3
      have z4 := HD.out.var.c 4
      have z5 := HD.out.var.c 5
      have z6 := HD.out.var.c 6
      have r0 := HD.out.res.c 0
      have fr0 := HD.out.res.f 0
      have r1 := HD.out.res.c 1
      have fr1 := HD.out.res.f 1
      have r2 := HD.out.res.c 2
      have fr2 := HD.out.res.f 2
      have r3 := HD.out.res.c 3
      have fr3 := HD.out.res.f 3
      have r4 := HD.out.res.c 4
      have fr4 := HD.out.res.f 4
      have r5 := HD.out.res.c 5
      have fr5 := HD.out.res.f 5
      have r6 := HD.out.res.c 6
      have fr6 := HD.out.res.f 6
      go_wp2_with fail
      have HO := HD.out.out7 (.int .i64 (2 + p0)) (.int .i64 (2 + p1)) (.int .i64 (60 + p4)) (.int .i64 (20 + p3)) (.bool true) (.int .i64 (8 + p5)) (.int .i64 (60 + p6))
      exact bodyPost_ret (v := cam (2 + p0) (2 + p1) (60 + p4) (20 + p3) true (8 + p5) (60 + p6)) (by simp [results, Try.results9, go_sem, r0, r1, r2, r3, r4, r5, r6]) rfl
        ⟨2 + p0, 2 + p1, 60 + p4, 20 + p3, true, 8 + p5, 60 + p6, ⟨by omega, by omega, by omega, by omega, by omega, by omega⟩, rfl, HO⟩

set_option maxHeartbeats 2000000 in
theorem makeCamera_any (A : Option Addr) (c : Nat) (bs : List Int) (w : World) (hR : Row U8 w w.heap.size A bs) (h8 : ∀ x ∈ bs, 0 ≤ x ∧ x ≤ 255) (hl : bs.length ≤ 1048576) :
    Calls Try.prog 4 #[.slice A bs.length c] w (CamMade w) := by
  have HW : Below w.heap.size w (w.alloc (.cells #[.int .i64 0, .int .i64 0, .int .i64 0, .int .i64 0, .bool false, .int .i64 0, .int .i64 0] 24)) := (Below.refl _ _).alloc (Nat.le_refl _) _
  have HR : Mbox (w.alloc (.cells #[.int .i64 0, .int .i64 0, .int .i64 0, .int .i64 0, .bool false, .int .i64 0, .int .i64 0] 24)) w.heap.size [.int .i64 0, .int .i64 0, .int .i64 0, .int .i64 0, .bool false, .int .i64 0, .int .i64 0] := Mbox.new w #[.int .i64 0, .int .i64 0, .int .i64 0, .int .i64 0, .bool false, .int .i64 0, .int .i64 0] 24
  have hR1 := hR.later HW
  go_enter Try.func4, Try.ntmps4
  go_wp2_with fail
  refine (new_any _ _ bs _ hR1 h8 hl).mono ?_
  rintro e w1 ⟨g, rfl, hC, hb⟩
  have HR := HR.later hb
  have HW := bcall HW hb (by simp)
  have hs := hb.size
  have HC := Lib.hid hC
  have HS := Lib.hid hs
  clear hR hR1 h8 hb hC hs
  go_wp2_with fail
  refine (draw8_any _ g _ HC.out HS.out).mono ?_
  rintro e w2 ⟨a, b, c', d, e', f, g', hG, rfl, _, hb2, _⟩
  have HR := HR.keep (fun _ => hb2.block _ (by simp))
  have HW := HW.trans (hb2.mono (by simp))
  have HG := Lib.hid hG
  have r0 := HR.c 0
  have r1 := HR.c 1
  have r2 := HR.c 2
  have r3 := HR.c 3
  have r4 := HR.c 4
  have r5 := HR.c 5
  have r6 := HR.c 6
  have fr0 := HR.f 0
  have fr1 := HR.f 1
  have fr2 := HR.f 2
  have fr3 := HR.f 3
  have fr4 := HR.f 4
  have fr5 := HR.f 5
  have fr6 := HR.f 6
  clear hb2 hG HC HS
  go_wp2_with fail
  exact bodyPost_ret (v := cam a b c' d e' f g') (by simp [results, Try.results4, go_sem, r0, r1, r2, r3, r4, r5, r6]) rfl ⟨a, b, c', d, e', f, g', HG.out, rfl, bset7P HW (Nat.le_refl _)⟩
end Go.Proofs.Ytolinlcihddkoab
