/- Contracts of drawn boxes: l03Draw and MakeBox. -/
import Derived.Test.YtjnebohcffeneaaProg
import Derived.Test.YtjnebohcffeneaaInts
import Derived.Test.YtjnebohcffeneaaMem
import Derived.Test.YtjnebohcffeneaaIntS
import Derived.Test.YtjnebohcffeneaaCur
import Derived.Test.YtjnebohcffeneaaVbox
import Derived.Test.YtjnebohcffeneaaVec
import Derived.Test.YtjnebohcffeneaaHeld
import Derived.Test.YtjnebohcffeneaaFlat
import Derived.Test.YtjnebohcffeneaaRowC
import Derived.Test.YtjnebohcffeneaaBox
import Derived.Test.YtjnebohcffeneaaBUnion
import Derived.Test.YtjnebohcffeneaaBPts
import Derived.Test.YtjnebohcffeneaaVDraw
import Derived.WalkKit
import Derived.WalkSpells
import Derived.WalkLawsBesides
import Derived.Lib.Hide
import Derived.Deep.RegionHeld3
import Derived.Deep.QuietTactic
import Derived.BigQuiet
import Derived.Handy
import Derived.Deep.DeepCutAuto
namespace Go.Proofs.Ytjnebohcffeneaa
open Go.RowKit

/-- a small box, lower corner first -/
def SmallB (a b c d e f : Int) : Prop := Small a b c ∧ Small d e f ∧ a ≤ d ∧ b ≤ e ∧ c ≤ f
def BoxDrawn (B g : Nat) (w : World) (x : Ending) (w' : World) : Prop := ∃ a b c d e f : Int, SmallB a b c d e f ∧ x = .returned (box a b c d e f) ∧ Cur w' B g ∧ Below B w w'
def BoxMade (w : World) (x : Ending) (w' : World) : Prop := ∃ a b c d e f : Int, SmallB a b c d e f ∧ x = .returned (box a b c d e f) ∧ Below w.heap.size w w'
theorem row2v (w : World) (x y z p q r : Int) (t : TypeId) : RowC 3 vg (w.alloc (.cells #[.int .i64 x, .int .i64 y, .int .i64 z, .int .i64 p, .int .i64 q, .int .i64 r] t)) (w.alloc (.cells #[.int .i64 x, .int .i64 y, .int .i64 z, .int .i64 p, .int .i64 q, .int .i64 r] t)).heap.size (some ⟨w.heap.size, 0, none⟩) [(x, y, z), (p, q, r)] := fun _ => by
  have V := Mbox.new6 w (.int .i64 x) (.int .i64 y) (.int .i64 z) (.int .i64 p) (.int .i64 q) (.int .i64 r) t
  refine ⟨w.heap.size, 0, rfl, by simp, fun k hk j v hv => ?_⟩
  match k, hk with
  | 0, _ => exact V.c (0 + 0 * 3 + j) (by
      match j, hv with
      | 0, hv => exact hv
      | 1, hv => exact hv
      | 2, hv => exact hv)
  | 1, _ => exact V.c (0 + 1 * 3 + j) (by
      match j, hv with
      | 0, hv => exact hv
      | 1, hv => exact hv
      | 2, hv => exact hv)
theorem small_cc {x y z : Int} (h : Small x y z) : cc x = x ∧ cc y = y ∧ cc z = z := by
  obtain ⟨⟨h0, h1⟩, ⟨h2, h3⟩, h4, h5⟩ := h
  exact ⟨cc_in (by omega) (by omega), cc_in (by omega) (by omega), cc_in (by omega) (by omega)⟩
theorem mnP_le (a b : Int) : mnP a b ≤ a ∧ mnP a b ≤ b ∧ (mnP a b = a ∨ mnP a b = b) := by unfold mnP; split <;> omega
theorem mxP_ge (a b : Int) : a ≤ mxP a b ∧ b ≤ mxP a b ∧ (mxP a b = a ∨ mxP a b = b) := by unfold mxP; split <;> omega
theorem small_join {x y z p q r : Int} (h : Small x y z) (k : Small p q r) : SmallB (mnP (cc x) (cc p)) (mnP (cc y) (cc q)) (mnP (cc z) (cc r)) (mxP (cc x) (cc p)) (mxP (cc y) (cc q)) (mxP (cc z) (cc r)) := by
  obtain ⟨e0, e1, e2⟩ := small_cc h
  obtain ⟨e3, e4, e5⟩ := small_cc k
  rw [e0, e1, e2, e3, e4, e5]
  obtain ⟨⟨h0, h1⟩, ⟨h2, h3⟩, h4, h5⟩ := h
  obtain ⟨⟨k0, k1⟩, ⟨k2, k3⟩, k4, k5⟩ := k
  have m0 := mnP_le x p
  have m1 := mnP_le y q
  have m2 := mnP_le z r
  have n0 := mxP_ge x p
  have n1 := mxP_ge y q
  have n2 := mxP_ge z r
  refine ⟨⟨?_, ?_, ?_⟩, ⟨?_, ?_, ?_⟩, ?_, ?_, ?_⟩ <;> omega
theorem Mbox.grown {w w' : World} {k g : Nat} {vs : List Value} (h : Mbox w k vs) (hg : w.grownBy w' (some g)) (hk : k ≠ g) : Mbox w' k vs := h.keep fun hl => hg.block k hl (fun e => by injection e with e; exact hk e)

set_option maxHeartbeats 2000000 in
theorem drawBox_any (B g : Nat) (w : World) (hC : Cur w B g) (hB : B ≤ w.heap.size) :
    Calls Try.prog 29 #[.pointer (some ⟨g, 0, none⟩)] w (BoxDrawn B g w) := by
  have hge := hC.ge
  have hgl := hC.lt
  have HR : Mbox (w.alloc (.cells #[.int .i64 0, .int .i64 0, .int .i64 0, .int .i64 0, .int .i64 0, .int .i64 0] 26)) w.heap.size [.int .i64 0, .int .i64 0, .int .i64 0, .int .i64 0, .int .i64 0, .int .i64 0] := Mbox.new6 w _ _ _ _ _ _ _
  have HW : Below B w (w.alloc (.cells #[.int .i64 0, .int .i64 0, .int .i64 0, .int .i64 0, .int .i64 0, .int .i64 0] 26)) := (Below.refl _ _).alloc hB _
  have hC0 : Cur (w.alloc (.cells #[.int .i64 0, .int .i64 0, .int .i64 0, .int .i64 0, .int .i64 0, .int .i64 0] 26)) B g := hC.keep (gb_of_below ((Below.refl _ _).alloc (Nat.le_refl _) _) (row := none)) (fun r h => by cases h) (by simp)
  have hz : B ≤ (w.alloc (.cells #[.int .i64 0, .int .i64 0, .int .i64 0, .int .i64 0, .int .i64 0, .int .i64 0] 26)).heap.size := by simp; omega
  go_enter Try.func29, Try.ntmps29
  go_wp2_with fail
  refine (draw_any B g _ hC0 hz).mono ?_
  rintro e w1 ⟨x, y, z, hS, rfl, hC1, _, hg1⟩
  have HR := HR.grown hg1 (by omega)
  have HW := HW.grown hg1 hz (fun k h => by injection h with h; omega)
  have hz := Nat.le_trans hz hg1.size
  have HC := Lib.hid hC1
  have HS1 := Lib.hid hS
  have HZ := Lib.hid hz
  clear hC1 hg1 hC0 hS hz
  go_wp2_with fail
  refine (draw_any B g _ HC.out HZ.out).mono ?_
  rintro e w2 ⟨p, q, r, hS, rfl, hC2, _, hg2⟩
  have HR := (HR.grown hg2 (by omega)).alloc (.cells #[.int .i64 x, .int .i64 y, .int .i64 z, .int .i64 p, .int .i64 q, .int .i64 r] 24)
  have HW := HW.grown hg2 HZ.out (fun k h => by injection h with h; omega)
  have hz := Nat.le_trans HZ.out hg2.size
  have HW := HW.alloc hz (.cells #[.int .i64 x, .int .i64 y, .int .i64 z, .int .i64 p, .int .i64 q, .int .i64 r] 24)
  have HC := hC2.keep (gb_of_below ((Below.refl w2.heap.size w2).alloc (Nat.le_refl _) (.cells #[.int .i64 x, .int .i64 y, .int .i64 z, .int .i64 p, .int .i64 q, .int .i64 r] 24)) (row := none)) (fun r h => by cases h) (by simp)
  have HC := Lib.hid HC
  have HSM := Lib.hid (small_join HS1.out hS)
  have HRow := Lib.hid (row2v w2 x y z p q r 24)
  have HZ := Lib.hid (show B ≤ (w2.alloc (.cells #[.int .i64 x, .int .i64 y, .int .i64 z, .int .i64 p, .int .i64 q, .int .i64 r] 24)).heap.size by simp; omega)
  clear hC2 hg2 hS HS1 hz
  go_wp2_with fail
  refine (sBoundPoints_any _ _ [(x, y, z), (p, q, r)] _ HRow.out (by simp)).mono ?_
  rintro e w3 ⟨rfl, hb3⟩
  have HR := HR.later hb3
  have HW := bcall HW hb3 HZ.out
  have HC := Lib.hid (HC.out.keep (gb_of_below hb3 (row := none)) (fun r h => by cases h) (by simp))
  have HZ := Lib.hid (Nat.le_trans HZ.out hb3.size)
  clear hb3 HRow
  have ev : bdV (x, y, z) [(p, q, r)] = box (mnP (cc x) (cc p)) (mnP (cc y) (cc q)) (mnP (cc z) (cc r)) (mxP (cc x) (cc p)) (mxP (cc y) (cc q)) (mxP (cc z) (cc r)) := rfl
  rw [ev]
  clear ev
  obtain ⟨a, ha⟩ : ∃ a, a = mnP (cc x) (cc p) := ⟨_, rfl⟩
  obtain ⟨b, hb⟩ : ∃ a, a = mnP (cc y) (cc q) := ⟨_, rfl⟩
  obtain ⟨c, hc⟩ : ∃ a, a = mnP (cc z) (cc r) := ⟨_, rfl⟩
  obtain ⟨d, hd⟩ : ∃ a, a = mxP (cc x) (cc p) := ⟨_, rfl⟩
  obtain ⟨e, he⟩ : ∃ a, a = mxP (cc y) (cc q) := ⟨_, rfl⟩
  obtain ⟨f, hf⟩ : ∃ a, a = mxP (cc z) (cc r) := ⟨_, rfl⟩
  rw [← ha, ← hb, ← hc, ← hd, ← he, ← hf] at HSM ⊢
  clear ha hb hc hd he hf
  have hne := HR.lt
  have HN := Mbox.new6 w3 (.int .i64 a) (.int .i64 b) (.int .i64 c) (.int .i64 d) (.int .i64 e) (.int .i64 f) 26
  have HR := HR.alloc (.cells #[.int .i64 a, .int .i64 b, .int .i64 c, .int .i64 d, .int .i64 e, .int .i64 f] 26)
  have HW := HW.alloc HZ.out (.cells #[.int .i64 a, .int .i64 b, .int .i64 c, .int .i64 d, .int .i64 e, .int .i64 f] 26)
  have HC := HC.out.keep (gb_of_below ((Below.refl w3.heap.size w3).alloc (Nat.le_refl _) (.cells #[.int .i64 a, .int .i64 b, .int .i64 c, .int .i64 d, .int .i64 e, .int .i64 f] 26)) (row := none)) (fun r h => by cases h) (by simp)
  go_upto_region 2 with fail
  generalize w3.alloc (.cells #[.int .i64 a, .int .i64 b, .int .i64 c, .int .i64 d, .int .i64 e, .int .i64 f] 26) = W4 at HN HR HW HC ⊢
  generalize w3.heap.size = G at HN hne HZ ⊢
  have c0 := HN.c 0
  have c1 := HN.c 1
  have c2 := HN.c 2
  have c3 := HN.c 3
  have c4 := HN.c 4
  have c5 := HN.c 5
  have r0 := HR.c 0
  have r1 := HR.c 1
  have r2 := HR.c 2
  have r3 := HR.c 3
  have r4 := HR.c 4
  have r5 := HR.c 5
  have g0 := HR.f 0
  have g1 := HR.f 1
  have g2 := HR.f 2
  have g3 := HR.f 3
  have g4 := HR.f 4
  have g5 := HR.f 5
  have hg3 : W4.grownBy ((((((W4.setCell ⟨w.heap.size, 0, none⟩ (.int .i64 a)).setCell ⟨w.heap.size, 1, none⟩ (.int .i64 b)).setCell ⟨w.heap.size, 2, none⟩ (.int .i64 c)).setCell ⟨w.heap.size, 3, none⟩ (.int .i64 d)).setCell ⟨w.heap.size, 4, none⟩ (.int .i64 e)).setCell ⟨w.heap.size, 5, none⟩ (.int .i64 f)) (some w.heap.size) := gb_set (gb_set (gb_set (gb_set (gb_set (gb_set (gb_refl _ _) _) _) _) _) _) _
  have HCf := Lib.hid (HC.keep hg3 (fun r h => by injection h with h; omega) (fun h => by injection h with h; omega))
  clear hg3 HC HR HN HZ
  go_wp2_with fail
  exact bodyPost_ret (v := box a b c d e f) (by simp [results, Try.results29, go_sem, r0, r1, r2, r3, r4, r5]) rfl ⟨a, b, c, d, e, f, HSM.out, rfl, HCf.out, bset6 HW hB⟩

set_option maxHeartbeats 2000000 in
theorem makeBox_any (A : Option Addr) (c : Nat) (bs : List Int) (n : Int) (w : World) (hR : Row U8 w w.heap.size A bs) (h8 : ∀ x ∈ bs, 0 ≤ x ∧ x ≤ 255) (hl : bs.length ≤ 1048576) (hn0 : 0 ≤ n) (hn : n ≤ 1000) :
    Calls Try.prog 9 #[.slice A bs.length c, .int .i64 n] w (BoxMade w) := by
  have HW : Below w.heap.size w (w.alloc (.cells #[.int .i64 0, .int .i64 0, .int .i64 0, .int .i64 0, .int .i64 0, .int .i64 0] 26)) := (Below.refl _ _).alloc (Nat.le_refl _) _
  have HR : Mbox (w.alloc (.cells #[.int .i64 0, .int .i64 0, .int .i64 0, .int .i64 0, .int .i64 0, .int .i64 0] 26)) w.heap.size [.int .i64 0, .int .i64 0, .int .i64 0, .int .i64 0, .int .i64 0, .int .i64 0] := Mbox.new6 w _ _ _ _ _ _ _
  have hR1 := hR.later HW
  go_enter Try.func9, Try.ntmps9
  go_wp2_with fail
  refine (new32_any _ _ bs _ _ hR1 h8 hl (by omega) (by omega)).mono ?_
  rintro e w1 ⟨g, rfl, hC, hb⟩
  have HR := HR.later hb
  have HW := bcall HW hb (by simp)
  have hs := hb.size
  have HC := Lib.hid hC
  have HS := Lib.hid hs
  clear hR hR1 h8 hb hC hs
  go_wp2_with fail
  refine (drawBox_any _ g _ HC.out HS.out).mono ?_
  rintro x w2 ⟨a, b, c, d, e, f, hS, rfl, _, hb2⟩
  have HR := HR.keep (fun _ => hb2.block _ (by simp))
  have HW := HW.trans (hb2.mono (by simp))
  have HSM := Lib.hid hS
  have r0 := HR.c 0
  have r1 := HR.c 1
  have r2 := HR.c 2
  have r3 := HR.c 3
  have r4 := HR.c 4
  have r5 := HR.c 5
  have g0 := HR.f 0
  have g1 := HR.f 1
  have g2 := HR.f 2
  have g3 := HR.f 3
  have g4 := HR.f 4
  have g5 := HR.f 5
  clear hb2 hS HC HS
  go_wp2_with fail
  exact bodyPost_ret (v := box a b c d e f) (by simp [results, Try.results9, go_sem, r0, r1, r2, r3, r4, r5]) rfl ⟨a, b, c, d, e, f, HSM.out, rfl, bset6 HW (Nat.le_refl _)⟩
end Go.Proofs.Ytjnebohcffeneaa
