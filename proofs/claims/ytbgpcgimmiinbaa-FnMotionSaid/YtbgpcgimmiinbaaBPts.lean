/- Contracts of BoundPoints: the program and its model. -/
import Derived.Test.YtbgpcgimmiinbaaProg
import Derived.Test.YtbgpcgimmiinbaaInts
import Derived.Test.YtbgpcgimmiinbaaVbox
import Derived.Test.YtbgpcgimmiinbaaVec
import Derived.Test.YtbgpcgimmiinbaaHeld
import Derived.Test.YtbgpcgimmiinbaaMem
import Derived.Test.YtbgpcgimmiinbaaFlat
import Derived.Test.YtbgpcgimmiinbaaRowC
import Derived.Test.YtbgpcgimmiinbaaBox
import Derived.Test.YtbgpcgimmiinbaaBUnion
import Derived.WalkKit
import Derived.WalkSpells
import Derived.WalkLawsBesides
import Derived.Lib.Hide
import Derived.Deep.RegionHeld3
import Derived.Deep.QuietTactic
import Derived.BigQuiet
import Derived.Handy
import Derived.Deep.DeepCutAuto
namespace Go.Proofs.Ytbgpcgimmiinbaa
open Go.RowKit

/-- the least and the greatest of the clamped values -/
def mnF (f : V3 → Int) (x : V3) (r : List V3) : Int := r.foldl (fun a v => mnP a (cc (f v))) (cc (f x))
def mxF (f : V3 → Int) (x : V3) (r : List V3) : Int := r.foldl (fun a v => mxP a (cc (f v))) (cc (f x))
def cx (v : V3) : Int := v.1
def cy (v : V3) : Int := v.2.1
def cz (v : V3) : Int := v.2.2
theorem cc_cc (n : Int) : cc (cc n) = cc n := cc_in (cc_bd n).1 (cc_bd n).2
theorem mnP_bd {a b : Int} (ha : -1000000 ≤ a ∧ a ≤ 1000000) (hb : -1000000 ≤ b ∧ b ≤ 1000000) : -1000000 ≤ mnP a b ∧ mnP a b ≤ 1000000 := by unfold mnP; split <;> omega
theorem mxP_bd {a b : Int} (ha : -1000000 ≤ a ∧ a ≤ 1000000) (hb : -1000000 ≤ b ∧ b ≤ 1000000) : -1000000 ≤ mxP a b ∧ mxP a b ≤ 1000000 := by unfold mxP; split <;> omega
theorem mnF_bd (f : V3 → Int) (x : V3) (r : List V3) : -1000000 ≤ mnF f x r ∧ mnF f x r ≤ 1000000 := by
  unfold mnF
  suffices H : ∀ (r : List V3) (a : Int), (-1000000 ≤ a ∧ a ≤ 1000000) → (-1000000 ≤ r.foldl (fun a v => mnP a (cc (f v))) a ∧ r.foldl (fun a v => mnP a (cc (f v))) a ≤ 1000000) from H r _ (cc_bd _)
  intro r
  induction r with
  | nil => intro a h; exact h
  | cons v r ih => intro a h; exact ih _ (mnP_bd h (cc_bd _))
theorem mxF_bd (f : V3 → Int) (x : V3) (r : List V3) : -1000000 ≤ mxF f x r ∧ mxF f x r ≤ 1000000 := by
  unfold mxF
  suffices H : ∀ (r : List V3) (a : Int), (-1000000 ≤ a ∧ a ≤ 1000000) → (-1000000 ≤ r.foldl (fun a v => mxP a (cc (f v))) a ∧ r.foldl (fun a v => mxP a (cc (f v))) a ≤ 1000000) from H r _ (cc_bd _)
  intro r
  induction r with
  | nil => intro a h; exact h
  | cons v r ih => intro a h; exact ih _ (mxP_bd h (cc_bd _))
theorem cc_mnF (f : V3 → Int) (x : V3) (r : List V3) : cc (mnF f x r) = mnF f x r := cc_in (mnF_bd f x r).1 (mnF_bd f x r).2
theorem cc_mxF (f : V3 → Int) (x : V3) (r : List V3) : cc (mxF f x r) = mxF f x r := cc_in (mxF_bd f x r).1 (mxF_bd f x r).2
theorem mnF_step (f : V3 → Int) (x : V3) (r : List V3) (k : Nat) (h : k < r.length) : mnF f x (r.take (k + 1)) = mnP (cc (mnF f x (r.take k))) (cc (f r[k])) := by
  rw [cc_mnF]
  unfold mnF
  rw [List.take_succ_eq_append_getElem h, List.foldl_append]; rfl
theorem mxF_step (f : V3 → Int) (x : V3) (r : List V3) (k : Nat) (h : k < r.length) : mxF f x (r.take (k + 1)) = mxP (cc (mxF f x (r.take k))) (cc (f r[k])) := by
  rw [cc_mxF]
  unfold mxF
  rw [List.take_succ_eq_append_getElem h, List.foldl_append]; rfl
theorem mnF_self (f : V3 → Int) (x : V3) (r : List V3) : mnF f x (x :: r) = mnF f x r := by
  unfold mnF
  rw [List.foldl_cons, show mnP (cc (f x)) (cc (f x)) = cc (f x) by unfold mnP; split <;> rfl]
theorem mxF_self (f : V3 → Int) (x : V3) (r : List V3) : mxF f x (x :: r) = mxF f x r := by
  unfold mxF
  rw [List.foldl_cons, show mxP (cc (f x)) (cc (f x)) = cc (f x) by unfold mxP; split <;> rfl]
/-- the cells of the box about a point and a list of points -/
def bbL (x : V3) (r : List V3) : List Value := [.int .i64 (mnF cx x r), .int .i64 (mnF cy x r), .int .i64 (mnF cz x r), .int .i64 (mxF cx x r), .int .i64 (mxF cy x r), .int .i64 (mxF cz x r)]
def bdV (x : V3) (r : List V3) : Value := box (mnF cx x r) (mnF cy x r) (mnF cz x r) (mxF cx x r) (mxF cy x r) (mxF cz x r)
def PtsOut : List V3 → World → Ending → World → Prop
  | [], w, e, w' => e = .returned (.tuple #[box 0 0 0 0 0 0, .bool false]) ∧ Below w.heap.size w w'
  | x :: r, w, e, w' => e = .returned (.tuple #[bdV x r, .bool true]) ∧ Below w.heap.size w w'
theorem RowC.tail {n : Nat} {g : V3 → List Value} {w : World} {B b o : Nat} {x : V3} {r : List V3} (h : RowC n g w B (some ⟨b, o, none⟩) (x :: r)) : RowC n g w B (some ⟨b, o + n, none⟩) r := fun h0 => by
  obtain ⟨b', o', e, hb, hc⟩ := h (by simp)
  simp only [Option.some.injEq, Addr.mk.injEq, and_true] at e
  obtain ⟨rfl, rfl⟩ := e
  refine ⟨b, o + n, rfl, hb, fun k hk j v hv => ?_⟩
  have := hc (k + 1) (by simpa using hk) j v (by simpa using hv)
  rw [show o + n + k * n + j = o + (k + 1) * n + j by rw [Nat.succ_mul]; omega]
  exact this

set_option maxHeartbeats 2000000 in
theorem pointBox_any (x y z : Int) (w : World) :
    Calls Try.prog 70 #[vec x y z] w (BoxOut (cc x) (cc y) (cc z) (cc x) (cc y) (cc z) w) := by
  have HT : Held w ((w.alloc (.cells #[.int .i64 x, .int .i64 y, .int .i64 z] 37)).alloc (.cells #[.int .i64 0, .int .i64 0, .int .i64 0, .int .i64 0, .int .i64 0, .int .i64 0] 44)) [(w.heap.size + 1, [.int .i64 0, .int .i64 0, .int .i64 0, .int .i64 0, .int .i64 0, .int .i64 0]), (w.heap.size, [.int .i64 x, .int .i64 y, .int .i64 z])] := by
    have h := ((Held.nil w).new #[.int .i64 x, .int .i64 y, .int .i64 z] 37).new #[.int .i64 0, .int .i64 0, .int .i64 0, .int .i64 0, .int .i64 0, .int .i64 0] 44
    simpa only [World.size_alloc] using h
  go_enter Try.func70, Try.ntmps70
  go_wp2_with fail
  refine (clamped_any _ _ _ _).mono ?_
  rintro e w1 ⟨rfl, hb1⟩
  have HT := HT.later hb1
  clear hb1
  have c0 := (HT.box 1).c 0
  have c1 := (HT.box 1).c 1
  have c2 := (HT.box 1).c 2
  have f0 := (HT.box 1).f 0
  have f1 := (HT.box 1).f 1
  have f2 := (HT.box 1).f 2
  have r0 := (HT.box 0).c 0
  have r1 := (HT.box 0).c 1
  have r2 := (HT.box 0).c 2
  have r3 := (HT.box 0).c 3
  have r4 := (HT.box 0).c 4
  have r5 := (HT.box 0).c 5
  have g0 := (HT.box 0).f 0
  have g1 := (HT.box 0).f 1
  have g2 := (HT.box 0).f 2
  have g3 := (HT.box 0).f 3
  have g4 := (HT.box 0).f 4
  have g5 := (HT.box 0).f 5
  have HW := HT.below
  clear HT
  go_wp2_with fail
  exact bodyPost_ret (v := box (cc x) (cc y) (cc z) (cc x) (cc y) (cc z)) (by simp [results, Try.results70, go_sem, r0, r1, r2, r3, r4, r5]) rfl ⟨rfl, bset6 (bset3 HW (Nat.le_refl _)) (by omega)⟩

theorem Held.put6 {w W : World} {bs : List (Nat × List Value)} {k : Nat} {p q r s t u : Value} (h : Held w W ((k, [p, q, r, s, t, u]) :: bs)) (hg : w.heap.size ≤ k) (hne : ∀ p ∈ bs, p.1 ≠ k) (a b c d e f : Value) : Held w ((((((W.setCell ⟨k, 0, none⟩ a).setCell ⟨k, 1, none⟩ b).setCell ⟨k, 2, none⟩ c).setCell ⟨k, 3, none⟩ d).setCell ⟨k, 4, none⟩ e).setCell ⟨k, 5, none⟩ f) ((k, [a, b, c, d, e, f]) :: bs) :=
  (((((h.put hg hne 0 a).put hg hne 1 b).put hg hne 2 c).put hg hne 3 d).put hg hne 4 e).put hg hne 5 f
theorem bdL_self (x : V3) (r : List V3) : bbL x (x :: r) = bbL x r := by unfold bbL; rw [mnF_self, mnF_self, mnF_self, mxF_self, mxF_self, mxF_self]

set_option maxHeartbeats 4000000 in
theorem boundPoints_any (A : Option Addr) (c : Nat) (xs : List V3) (w : World) (hR : RowC 3 vg w w.heap.size A xs) (hl : xs.length ≤ 1099511627776) (hcap : xs.length ≤ c) :
    Calls Try.prog 49 #[.slice A xs.length c] w (PtsOut xs w) := by
  rcases xs with _ | ⟨x, r⟩
  · go_enter Try.func49, Try.ntmps49
    go_wp2_with fail
    exact bodyPost_ret (v := .tuple #[box 0 0 0 0 0 0, .bool false]) (by simp [results, Try.results49, go_sem]) rfl ⟨rfl, by go_grown⟩
  obtain ⟨b, o, rfl, hbl, hc⟩ := hR.at (k := 0) (by simp)
  obtain ⟨n, hn⟩ : ∃ n, n = (x :: r).length := ⟨_, rfl⟩
  have HN := Lib.hid (show n = r.length + 1 from hn)
  have HR := Lib.hid hR.tail
  rw [← hn] at hl hcap ⊢
  have hc : ∀ j v, (vg x)[j]? = some v → w.cell? ⟨b, o + j, none⟩ = some v := fun j v h => by simpa using hc j v h
  obtain ⟨c0, c1, c2⟩ := vg_at hc
  have hlt' : (0 : Int) < (n : Int) := by have := HN.out; omega
  have h1n : (1 : Int) ≤ (n : Int) := by omega
  have hnc : (n : Int) ≤ (c : Int) := by omega
  have HT : Held w (w.alloc (.cells #[.int .i64 0, .int .i64 0, .int .i64 0, .int .i64 0, .int .i64 0, .int .i64 0] 44)) [(w.heap.size, [.int .i64 0, .int .i64 0, .int .i64 0, .int .i64 0, .int .i64 0, .int .i64 0])] := by
    have h := (Held.nil w).new #[.int .i64 0, .int .i64 0, .int .i64 0, .int .i64 0, .int .i64 0, .int .i64 0] 44
    simpa only [World.size_alloc] using h
  clear hR hc hn
  by_cases hc1 : c = 1
  · have hr : r = [] := List.length_eq_zero_iff.1 (by have := HN.out; omega)
    have hn1 : n = 1 := by have := HN.out; omega
    subst hr hc1 hn1
    clear HR HN
    go_enter Try.func49, Try.ntmps49
    go_wp2_with fail
    refine (pointBox_any _ _ _ _).mono ?_
    rintro e w1 ⟨rfl, hb1⟩
    have HT := (HT.later hb1).new #[.int .i64 (cc x.1), .int .i64 (cc x.2.1), .int .i64 (cc x.2.2), .int .i64 (cc x.1), .int .i64 (cc x.2.1), .int .i64 (cc x.2.2)] 44
    obtain ⟨G, hG⟩ : ∃ G, G = w1.heap.size := ⟨_, rfl⟩
    have hGn : w.heap.size < G := by have := hb1.size; simp at this; omega
    rw [← hG] at HT
    have HT : Held w (w1.alloc (.cells #[.int .i64 (cc x.1), .int .i64 (cc x.2.1), .int .i64 (cc x.2.2), .int .i64 (cc x.1), .int .i64 (cc x.2.1), .int .i64 (cc x.2.2)] 44)) [(G, bbL x []), (w.heap.size, [.int .i64 0, .int .i64 0, .int .i64 0, .int .i64 0, .int .i64 0, .int .i64 0])] := HT
    have HH := Lib.hid HT
    clear HT hb1 c0 c1 c2
    go_wp2_with fail
    rw [← hG]
    clear hG
    go_loopw [18] (fun i wr => i = .int .i64 0 ∧ Held w wr [(G, bbL x []), (w.heap.size, [.int .i64 0, .int .i64 0, .int .i64 0, .int .i64 0, .int .i64 0, .int .i64 0])]) (fun _ _ => 0)
    case atStart => exact ⟨rfl, HH.out⟩
    case round =>
      clear HH
      obtain ⟨rfl, HT⟩ := hrel
      have HT : Held w wr [(G, bbL x []), (w.heap.size, [.int .i64 0, .int .i64 0, .int .i64 0, .int .i64 0, .int .i64 0, .int .i64 0])] := HT
      have d0 := (HT.box 0).c 0
      have d1 := (HT.box 0).c 1
      have d2 := (HT.box 0).c 2
      have d3 := (HT.box 0).c 3
      have d4 := (HT.box 0).c 4
      have d5 := (HT.box 0).c 5
      have r0 := (HT.box 1).c 0
      have r1 := (HT.box 1).c 1
      have r2 := (HT.box 1).c 2
      have r3 := (HT.box 1).c 3
      have r4 := (HT.box 1).c 4
      have r5 := (HT.box 1).c 5
      have g0 := (HT.box 1).f 0
      have g1 := (HT.box 1).f 1
      have g2 := (HT.box 1).f 2
      have g3 := (HT.box 1).f 3
      have g4 := (HT.box 1).f 4
      have g5 := (HT.box 1).f 5
      have HW := HT.below
      clear HT
      go_wp2_with fail
      exact bodyPost_ret (v := .tuple #[bdV x [], .bool true]) (by simp [bdV, results, Try.results49, go_sem, r0, r1, r2, r3, r4, r5]) rfl ⟨rfl, bset6 HW (Nat.le_refl _)⟩
  go_enter Try.func49, Try.ntmps49
  go_wp2_with fail
  refine (pointBox_any _ _ _ _).mono ?_
  rintro e w1 ⟨rfl, hb1⟩
  have HT := (HT.later hb1).new #[.int .i64 (cc x.1), .int .i64 (cc x.2.1), .int .i64 (cc x.2.2), .int .i64 (cc x.1), .int .i64 (cc x.2.1), .int .i64 (cc x.2.2)] 44
  obtain ⟨G, hG⟩ : ∃ G, G = w1.heap.size := ⟨_, rfl⟩
  have hGn : w.heap.size < G := by have := hb1.size; simp at this; omega
  rw [← hG] at HT
  have HT : Held w (w1.alloc (.cells #[.int .i64 (cc x.1), .int .i64 (cc x.2.1), .int .i64 (cc x.2.2), .int .i64 (cc x.1), .int .i64 (cc x.2.1), .int .i64 (cc x.2.2)] 44)) [(G, bbL x (r.take 0)), (w.heap.size, [.int .i64 0, .int .i64 0, .int .i64 0, .int .i64 0, .int .i64 0, .int .i64 0])] := HT
  have HH := Lib.hid HT
  clear HT hb1 c0 c1 c2
  go_wp2_with fail
  rw [← hG]
  clear hG
  go_loopw [18] (fun i wr => ∃ k : Nat, k ≤ r.length ∧ i = .int .i64 k ∧ Held w wr [(G, bbL x (r.take k)), (w.heap.size, [.int .i64 0, .int .i64 0, .int .i64 0, .int .i64 0, .int .i64 0, .int .i64 0])]) (fun i _ => r.length - (intOf i).toNat)
  case atStart => exact ⟨0, Nat.zero_le _, rfl, HH.out⟩
  case round =>
    clear HH
    obtain ⟨k, hk, rfl, HT⟩ := hrel
    by_cases hlt : k < r.length
    · obtain ⟨b', o', e, _, hc⟩ := HR.out.at hlt
      simp only [Option.some.injEq, Addr.mk.injEq, and_true] at e
      obtain ⟨rfl, rfl⟩ := e
      have hlt' : (k : Int) < (n : Int) - 1 := by have := HN.out; omega
      have hge' : (0 : Int) ≤ (k : Int) := by omega
      obtain ⟨c0, c1, c2⟩ := vg_at hc
      obtain ⟨v, hv⟩ : ∃ v, v = r[k] := ⟨_, rfl⟩
      rw [← hv] at c0 c1 c2
      have c0 := (HT.below.cell (p := ⟨b, o + 3 + k * 3, none⟩) hbl).trans c0
      have c1 := (HT.below.cell (p := ⟨b, o + 3 + k * 3 + 1, none⟩) hbl).trans c1
      have c2 := (HT.below.cell (p := ⟨b, o + 3 + k * 3 + 2, none⟩) hbl).trans c2
      obtain ⟨m0, hm0⟩ : ∃ m, m = mnF cx x (r.take k) := ⟨_, rfl⟩
      obtain ⟨m1, hm1⟩ : ∃ m, m = mnF cy x (r.take k) := ⟨_, rfl⟩
      obtain ⟨m2, hm2⟩ : ∃ m, m = mnF cz x (r.take k) := ⟨_, rfl⟩
      obtain ⟨m3, hm3⟩ : ∃ m, m = mxF cx x (r.take k) := ⟨_, rfl⟩
      obtain ⟨m4, hm4⟩ : ∃ m, m = mxF cy x (r.take k) := ⟨_, rfl⟩
      obtain ⟨m5, hm5⟩ : ∃ m, m = mxF cz x (r.take k) := ⟨_, rfl⟩
      have E0 : mnF cx x (r.take (k + 1)) = mnP (cc m0) (cc (cc v.1)) := by rw [mnF_step _ _ _ _ hlt, ← hv, ← hm0, cc_cc]; rfl
      have E1 : mnF cy x (r.take (k + 1)) = mnP (cc m1) (cc (cc v.2.1)) := by rw [mnF_step _ _ _ _ hlt, ← hv, ← hm1, cc_cc]; rfl
      have E2 : mnF cz x (r.take (k + 1)) = mnP (cc m2) (cc (cc v.2.2)) := by rw [mnF_step _ _ _ _ hlt, ← hv, ← hm2, cc_cc]; rfl
      have E3 : mxF cx x (r.take (k + 1)) = mxP (cc m3) (cc (cc v.1)) := by rw [mxF_step _ _ _ _ hlt, ← hv, ← hm3, cc_cc]; rfl
      have E4 : mxF cy x (r.take (k + 1)) = mxP (cc m4) (cc (cc v.2.1)) := by rw [mxF_step _ _ _ _ hlt, ← hv, ← hm4, cc_cc]; rfl
      have E5 : mxF cz x (r.take (k + 1)) = mxP (cc m5) (cc (cc v.2.2)) := by rw [mxF_step _ _ _ _ hlt, ← hv, ← hm5, cc_cc]; rfl
      have HE0 := Lib.hid E0
      have HE1 := Lib.hid E1
      have HE2 := Lib.hid E2
      have HE3 := Lib.hid E3
      have HE4 := Lib.hid E4
      have HE5 := Lib.hid E5
      have HT : Held w wr [(G, [.int .i64 m0, .int .i64 m1, .int .i64 m2, .int .i64 m3, .int .i64 m4, .int .i64 m5]), (w.heap.size, [.int .i64 0, .int .i64 0, .int .i64 0, .int .i64 0, .int .i64 0, .int .i64 0])] := by
        rw [hm0, hm1, hm2, hm3, hm4, hm5]; exact HT
      clear hc hv hm0 hm1 hm2 hm3 hm4 hm5 E0 E1 E2 E3 E4 E5
      have hGl := (HT.box 0).lt
      have hne : G ≠ wr.heap.size := by omega
      have hne' : wr.heap.size ≠ G := by omega
      have d0 := (HT.box 0).c 0
      have d1 := (HT.box 0).c 1
      have d2 := (HT.box 0).c 2
      have d3 := (HT.box 0).c 3
      have d4 := (HT.box 0).c 4
      have d5 := (HT.box 0).c 5
      have f0 := (HT.box 0).f 0
      have f1 := (HT.box 0).f 1
      have f2 := (HT.box 0).f 2
      have f3 := (HT.box 0).f 3
      have f4 := (HT.box 0).f 4
      have f5 := (HT.box 0).f 5
      have HT := (HT.new #[.int .i64 (v.1), .int .i64 (v.2.1), .int .i64 (v.2.2)] 37).pick (cs := [(G, [.int .i64 m0, .int .i64 m1, .int .i64 m2, .int .i64 m3, .int .i64 m4, .int .i64 m5]), (wr.heap.size, [.int .i64 (v.1), .int .i64 (v.2.1), .int .i64 (v.2.2)]), (w.heap.size, [.int .i64 0, .int .i64 0, .int .i64 0, .int .i64 0, .int .i64 0, .int .i64 0])]) (by simp)
      clear HR
      go_wp2_with fail
      have HT := HT.drew
      have q0 := (HT.box 0).c 0; have p0 := (HT.box 0).f 0; have q1 := (HT.box 0).c 1; have p1 := (HT.box 0).f 1; have q2 := (HT.box 0).c 2; have p2 := (HT.box 0).f 2; have q3 := (HT.box 0).c 3; have p3 := (HT.box 0).f 3; have q4 := (HT.box 0).c 4; have p4 := (HT.box 0).f 4; have q5 := (HT.box 0).c 5; have p5 := (HT.box 0).f 5; have s0 := (HT.box 1).c 0; have s1 := (HT.box 1).c 1; have s2 := (HT.box 1).c 2
      go_region_with (first | (go_at_call 70; refine (pointBox_any _ _ _ _).mono ?_; rintro e w1 ⟨rfl, hb1⟩; have HT := HT.later hb1; have q0 := (HT.box 0).c 0; have p0 := (HT.box 0).f 0; have q1 := (HT.box 0).c 1; have p1 := (HT.box 0).f 1; have q2 := (HT.box 0).c 2; have p2 := (HT.box 0).f 2; have q3 := (HT.box 0).c 3; have p3 := (HT.box 0).f 3; have q4 := (HT.box 0).c 4; have p4 := (HT.box 0).f 4; have q5 := (HT.box 0).c 5; have p5 := (HT.box 0).f 5; have s0 := (HT.box 1).c 0; have s1 := (HT.box 1).c 1; have s2 := (HT.box 1).c 2) | (go_at_call 16; refine (unionBox_any _ _ _ _ _ _ _ _ _ _ _ _ _).mono ?_; rintro e w1 ⟨rfl, hb1⟩; have HT := HT.later hb1; have q0 := (HT.box 0).c 0; have p0 := (HT.box 0).f 0; have q1 := (HT.box 0).c 1; have p1 := (HT.box 0).f 1; have q2 := (HT.box 0).c 2; have p2 := (HT.box 0).f 2; have q3 := (HT.box 0).c 3; have p3 := (HT.box 0).f 3; have q4 := (HT.box 0).c 4; have p4 := (HT.box 0).f 4; have q5 := (HT.box 0).c 5; have p5 := (HT.box 0).f 5; have s0 := (HT.box 1).c 0; have s1 := (HT.box 1).c 1; have s2 := (HT.box 1).c 2))
      all_goals
        go_wp2_with fail
        go_roundw
        case rel =>
          refine ⟨k + 1, by omega, by go_num, ?_⟩
          unfold bbL
          rw [HE0.out, HE1.out, HE2.out, HE3.out, HE4.out, HE5.out]
          exact (HT.put6 (by omega) (by simp <;> omega) _ _ _ _ _ _).pick (by simp)
        case measure => simp [intOf]; omega
    · have hge : ¬ (k : Int) < (n : Int) - 1 := by have := HN.out; omega
      have e : k = r.length := by omega
      have HT : Held w wr [(G, bbL x r), (w.heap.size, [.int .i64 0, .int .i64 0, .int .i64 0, .int .i64 0, .int .i64 0, .int .i64 0])] := by rw [e, List.take_length] at HT; exact HT
      have d0 := (HT.box 0).c 0
      have d1 := (HT.box 0).c 1
      have d2 := (HT.box 0).c 2
      have d3 := (HT.box 0).c 3
      have d4 := (HT.box 0).c 4
      have d5 := (HT.box 0).c 5
      have r0 := (HT.box 1).c 0
      have r1 := (HT.box 1).c 1
      have r2 := (HT.box 1).c 2
      have r3 := (HT.box 1).c 3
      have r4 := (HT.box 1).c 4
      have r5 := (HT.box 1).c 5
      have g0 := (HT.box 1).f 0
      have g1 := (HT.box 1).f 1
      have g2 := (HT.box 1).f 2
      have g3 := (HT.box 1).f 3
      have g4 := (HT.box 1).f 4
      have g5 := (HT.box 1).f 5
      have HW := HT.below
      clear HT HR
      go_wp2_with fail
      exact bodyPost_ret (v := .tuple #[bdV x r, .bool true]) (by simp [bdV, results, Try.results49, go_sem, r0, r1, r2, r3, r4, r5]) rfl ⟨rfl, bset6 HW (Nat.le_refl _)⟩

end Go.Proofs.Ytbgpcgimmiinbaa
