/- Contracts of the laws own helpers on micropolygons and on slices of them. -/
import Derived.Test.YtmhcpjednogegaaProg
import Derived.Test.YtmhcpjednogegaaInts
import Derived.Test.YtmhcpjednogegaaVbox
import Derived.Test.YtmhcpjednogegaaVec
import Derived.Test.YtmhcpjednogegaaHeld
import Derived.Test.YtmhcpjednogegaaMem
import Derived.Test.YtmhcpjednogegaaFlat
import Derived.Test.YtmhcpjednogegaaRowC
import Derived.Test.YtmhcpjednogegaaArr
import Derived.Test.YtmhcpjednogegaaTr
import Derived.Test.YtmhcpjednogegaaPat
import Derived.Test.YtmhcpjednogegaaVecS
import Derived.Test.YtmhcpjednogegaaTri
import Derived.Test.YtmhcpjednogegaaDv
import Derived.WalkKit
import Derived.WalkSpells
import Derived.WalkLawsBesides
import Derived.Lib.Hide
import Derived.Deep.RegionHeld3
import Derived.Deep.QuietTactic
import Derived.BigQuiet
import Derived.Handy
import Derived.Deep.DeepCutAuto
import Derived.Laws.RangeAny
namespace Go.Proofs.Ytmhcpjednogegaa
open Go.RowKit

theorem bset3d {B k i j l : Nat} {a W : World} {u v x : Value} (h : Below B a W) (hk : B ≤ k) : Below B a (((W.setCell ⟨k, i, none⟩ u).setCell ⟨k, j, none⟩ v).setCell ⟨k, l, none⟩ x) :=
  ((h.setCell (p := ⟨k, i, none⟩) hk u).setCell (p := ⟨k, j, none⟩) hk v).setCell (p := ⟨k, l, none⟩) hk x
theorem ret_intD {a b : Int} (h : a = b) : Ending.returned (.int .i64 a) = .returned (.int .i64 b) := by rw [h]
/-- one cell of a row of elements, written -/
theorem flat_set {α : Type} {n : Nat} {g : α → List Value} (hg : ∀ x, (g x).length = n) {j : Nat} (hj : j < n) {v : Value} {x' : α} : ∀ (xs : List α) (k : Nat) (hk : k < xs.length), (g xs[k]).set j v = g x' → (xs.flatMap g).set (k * n + j) v = (xs.set k x').flatMap g := by
  intro xs
  induction xs with
  | nil => intro k hk; simp at hk
  | cons x xs ih =>
    intro k hk h
    match k, hk, h with
    | 0, _, h =>
      rw [List.flatMap_cons, Nat.zero_mul, Nat.zero_add, List.set_append_left _ _ (by rw [hg]; exact hj)]
      simp only [List.getElem_cons_zero] at h
      rw [h, List.set_cons_zero, List.flatMap_cons]
    | k + 1, hk, h =>
      have := ih k (by simpa using hk) (by simpa using h)
      rw [List.flatMap_cons, List.set_append_right _ _ (by rw [hg, Nat.succ_mul]; omega), hg, show (k + 1) * n + j - n = k * n + j by rw [Nat.succ_mul]; omega, this, List.set_cons_succ, List.flatMap_cons]
/-- a micropolygon's cell, marked -/
def mkM (p : M4) (v : V3) : M4 := (p.1, p.2.1, p.2.2.1, v)
def mk3 (k j : Nat) : V3 := (((k + 3 * j : Nat) : Int), ((k + 3 * j + 1 : Nat) : Int), ((k + 3 * j + 2 : Nat) : Int))
def mkIn (k i : Nat) (xs : List M4) : List M4 := xs.mapIdx fun j p => if j < i then mkM p (mk3 k j) else p
theorem mkIn_len (k i : Nat) (xs : List M4) : (mkIn k i xs).length = xs.length := by simp [mkIn]
theorem mkIn_zero (k : Nat) (xs : List M4) : mkIn k 0 xs = xs := by
  apply List.ext_getElem (by simp [mkIn])
  intro i h1 h2
  simp [mkIn]
theorem mkIn_at (k i : Nat) (xs : List M4) (j : Nat) (h : j < (mkIn k i xs).length) : (mkIn k i xs)[j] = if j < i then mkM (xs[j]'(by rw [← mkIn_len k i xs]; exact h)) (mk3 k j) else xs[j]'(by rw [← mkIn_len k i xs]; exact h) := by simp [mkIn]
theorem mkIn_step (k i : Nat) (xs : List M4) (h : i < xs.length) : (mkIn k i xs).set i (mkM xs[i] (mk3 k i)) = mkIn k (i + 1) xs := by
  apply List.ext_getElem (by simp [mkIn_len])
  intro j h1 h2
  rw [List.getElem_set, mkIn_at, mkIn_at]
  split
  · rename_i e; subst e; rw [if_pos (by omega)]
  · by_cases hj : j < i
    · rw [if_pos hj, if_pos (by omega)]
    · rw [if_neg hj, if_neg (by omega)]
/-- the three stores of a mark -/
theorem mk_set (k i : Nat) (xs : List M4) (h : i < xs.length) :
    ((((mkIn k i xs).flatMap mgc).set (i * 12 + 9) (.int .i64 ((k + 3 * i : Nat) : Int))).set (i * 12 + 10) (.int .i64 ((k + 3 * i + 1 : Nat) : Int))).set (i * 12 + 11) (.int .i64 ((k + 3 * i + 2 : Nat) : Int)) = (mkIn k (i + 1) xs).flatMap mgc := by
  have hl : i < (mkIn k i xs).length := by rw [mkIn_len]; exact h
  have he : (mkIn k i xs)[i] = xs[i] := by rw [mkIn_at, if_neg (by omega)]
  rw [flat_set mgc_len (j := 9) (by omega) (x' := mkM xs[i] (((k + 3 * i : Nat) : Int), xs[i].2.2.2.2.1, xs[i].2.2.2.2.2)) _ i hl (by rw [he]; rfl),
    flat_set mgc_len (j := 10) (by omega) (x' := mkM xs[i] (((k + 3 * i : Nat) : Int), ((k + 3 * i + 1 : Nat) : Int), xs[i].2.2.2.2.2)) _ i (by rw [List.length_set]; exact hl) (by rw [List.getElem_set_self]; rfl),
    flat_set mgc_len (j := 11) (by omega) (x' := mkM xs[i] (mk3 k i)) _ i (by rw [List.length_set, List.length_set]; exact hl) (by rw [List.getElem_set_self]; rfl),
    List.set_set, List.set_set, mkIn_step _ _ _ h]
/-- the cells of one element of a row of micropolygons -/
theorem own_mic {w : World} {base : Nat} {e : TypeId} {g n cap : Nat} {xs : List M4} (h : w.ownsRow base e 12 (.slice (some ⟨g, 0, none⟩) n cap) n (xs.flatMap mgc)) (hn : xs.length = n) {k : Nat} (hk : k < n) (j : Nat) (hj : j < 12) :
    w.cell? ⟨g, k * 12 + j, none⟩ = (mgc (xs[k]'(by omega)))[j]? := by
  have h0 := h.cellAt (k * 12 + j) (by omega)
  rw [h0, flat_get mgc_len xs k j (by omega) hj]

set_option maxHeartbeats 2000000 in
theorem toMic_any (a0 a1 a2 a3 a4 a5 a6 a7 a8 x y z : Int) (w : World) :
    Calls Try.prog 54 #[tr a0 a1 a2 a3 a4 a5 a6 a7 a8 x y z] w (TrOut a0 a1 a2 a3 a4 a5 a6 a7 a8 x y z w) := by
  have HT : Held w (((w.alloc (.cells #[.int .i64 a0, .int .i64 a1, .int .i64 a2, .int .i64 a3, .int .i64 a4, .int .i64 a5, .int .i64 a6, .int .i64 a7, .int .i64 a8, .int .i64 x, .int .i64 y, .int .i64 z] 96)).alloc (.cells #[.int .i64 0, .int .i64 0, .int .i64 0, .int .i64 0, .int .i64 0, .int .i64 0, .int .i64 0, .int .i64 0, .int .i64 0, .int .i64 0, .int .i64 0, .int .i64 0] 45)).alloc (.cells #[.int .i64 0, .int .i64 0, .int .i64 0, .int .i64 0, .int .i64 0, .int .i64 0, .int .i64 0, .int .i64 0, .int .i64 0, .int .i64 0, .int .i64 0, .int .i64 0] 45)) [(w.heap.size + 2, [.int .i64 0, .int .i64 0, .int .i64 0, .int .i64 0, .int .i64 0, .int .i64 0, .int .i64 0, .int .i64 0, .int .i64 0, .int .i64 0, .int .i64 0, .int .i64 0]), (w.heap.size + 1, [.int .i64 0, .int .i64 0, .int .i64 0, .int .i64 0, .int .i64 0, .int .i64 0, .int .i64 0, .int .i64 0, .int .i64 0, .int .i64 0, .int .i64 0, .int .i64 0]), (w.heap.size, [.int .i64 a0, .int .i64 a1, .int .i64 a2, .int .i64 a3, .int .i64 a4, .int .i64 a5, .int .i64 a6, .int .i64 a7, .int .i64 a8, .int .i64 x, .int .i64 y, .int .i64 z])] := by
    have h := (((Held.nil w).new #[.int .i64 a0, .int .i64 a1, .int .i64 a2, .int .i64 a3, .int .i64 a4, .int .i64 a5, .int .i64 a6, .int .i64 a7, .int .i64 a8, .int .i64 x, .int .i64 y, .int .i64 z] 96).new #[.int .i64 0, .int .i64 0, .int .i64 0, .int .i64 0, .int .i64 0, .int .i64 0, .int .i64 0, .int .i64 0, .int .i64 0, .int .i64 0, .int .i64 0, .int .i64 0] 45).new #[.int .i64 0, .int .i64 0, .int .i64 0, .int .i64 0, .int .i64 0, .int .i64 0, .int .i64 0, .int .i64 0, .int .i64 0, .int .i64 0, .int .i64 0, .int .i64 0] 45
    simpa only [World.size_alloc] using h
  go_enter Try.func54, Try.ntmps54
  go_wp2_with fail
  refine (toTriangle_any _ _ _ _ _ _ _ _ _ _).mono ?_
  rintro e w1 ⟨rfl, hb1⟩
  have HT := (HT.later hb1)
  clear hb1
  have c0 := (HT.box 2).c 0
  have c1 := (HT.box 2).c 1
  have c2 := (HT.box 2).c 2
  have c3 := (HT.box 2).c 3
  have c4 := (HT.box 2).c 4
  have c5 := (HT.box 2).c 5
  have c6 := (HT.box 2).c 6
  have c7 := (HT.box 2).c 7
  have c8 := (HT.box 2).c 8
  have c9 := (HT.box 2).c 9
  have c10 := (HT.box 2).c 10
  have c11 := (HT.box 2).c 11
  have d0 := (HT.box 0).c 0
  have d1 := (HT.box 0).c 1
  have d2 := (HT.box 0).c 2
  have d3 := (HT.box 0).c 3
  have d4 := (HT.box 0).c 4
  have d5 := (HT.box 0).c 5
  have d6 := (HT.box 0).c 6
  have d7 := (HT.box 0).c 7
  have d8 := (HT.box 0).c 8
  have d9 := (HT.box 0).c 9
  have d10 := (HT.box 0).c 10
  have d11 := (HT.box 0).c 11
  have f0 := (HT.box 0).f 0
  have f1 := (HT.box 0).f 1
  have f2 := (HT.box 0).f 2
  have f3 := (HT.box 0).f 3
  have f4 := (HT.box 0).f 4
  have f5 := (HT.box 0).f 5
  have f6 := (HT.box 0).f 6
  have f7 := (HT.box 0).f 7
  have f8 := (HT.box 0).f 8
  have f9 := (HT.box 0).f 9
  have f10 := (HT.box 0).f 10
  have f11 := (HT.box 0).f 11
  have HP := HT.putM (by omega) (by simp) (.int .i64 a0) (.int .i64 a1) (.int .i64 a2) (.int .i64 a3) (.int .i64 a4) (.int .i64 a5) (.int .i64 a6) (.int .i64 a7) (.int .i64 a8)
  clear HT
  go_upto_region 3 with fail
  generalize (((((((((w1.setCell ⟨(w.heap.size + 2), 0, none⟩ (.int .i64 a0)).setCell ⟨(w.heap.size + 2), 1, none⟩ (.int .i64 a1)).setCell ⟨(w.heap.size + 2), 2, none⟩ (.int .i64 a2)).setCell ⟨(w.heap.size + 2), 3, none⟩ (.int .i64 a3)).setCell ⟨(w.heap.size + 2), 4, none⟩ (.int .i64 a4)).setCell ⟨(w.heap.size + 2), 5, none⟩ (.int .i64 a5)).setCell ⟨(w.heap.size + 2), 6, none⟩ (.int .i64 a6)).setCell ⟨(w.heap.size + 2), 7, none⟩ (.int .i64 a7)).setCell ⟨(w.heap.size + 2), 8, none⟩ (.int .i64 a8)) = W2 at HP ⊢
  clear c0 c1 c2 c3 c4 c5 c6 c7 c8 c9 c10 c11 d0 d1 d2 d3 d4 d5 d6 d7 d8 d9 d10 d11 f0 f1 f2 f3 f4 f5 f6 f7 f8 f9 f10 f11
  have HT := HP
  clear HP
  have c0 := (HT.box 2).c 0
  have c1 := (HT.box 2).c 1
  have c2 := (HT.box 2).c 2
  have c3 := (HT.box 2).c 3
  have c4 := (HT.box 2).c 4
  have c5 := (HT.box 2).c 5
  have c6 := (HT.box 2).c 6
  have c7 := (HT.box 2).c 7
  have c8 := (HT.box 2).c 8
  have c9 := (HT.box 2).c 9
  have c10 := (HT.box 2).c 10
  have c11 := (HT.box 2).c 11
  have d0 := (HT.box 0).c 0
  have d1 := (HT.box 0).c 1
  have d2 := (HT.box 0).c 2
  have d3 := (HT.box 0).c 3
  have d4 := (HT.box 0).c 4
  have d5 := (HT.box 0).c 5
  have d6 := (HT.box 0).c 6
  have d7 := (HT.box 0).c 7
  have d8 := (HT.box 0).c 8
  have d9 := (HT.box 0).c 9
  have d10 := (HT.box 0).c 10
  have d11 := (HT.box 0).c 11
  have f0 := (HT.box 0).f 0
  have f1 := (HT.box 0).f 1
  have f2 := (HT.box 0).f 2
  have f3 := (HT.box 0).f 3
  have f4 := (HT.box 0).f 4
  have f5 := (HT.box 0).f 5
  have f6 := (HT.box 0).f 6
  have f7 := (HT.box 0).f 7
  have f8 := (HT.box 0).f 8
  have f9 := (HT.box 0).f 9
  have f10 := (HT.box 0).f 10
  have f11 := (HT.box 0).f 11
  have HP := HT.putO (by omega) (by simp) (.int .i64 x) (.int .i64 y) (.int .i64 z)
  clear HT
  go_upto_region 6 with fail
  generalize (((W2.setCell ⟨(w.heap.size + 2), 9, none⟩ (.int .i64 x)).setCell ⟨(w.heap.size + 2), 10, none⟩ (.int .i64 y)).setCell ⟨(w.heap.size + 2), 11, none⟩ (.int .i64 z)) = W3 at HP ⊢
  clear c0 c1 c2 c3 c4 c5 c6 c7 c8 c9 c10 c11 d0 d1 d2 d3 d4 d5 d6 d7 d8 d9 d10 d11 f0 f1 f2 f3 f4 f5 f6 f7 f8 f9 f10 f11
  have HT := HP
  clear HP
  have d0 := (HT.box 0).c 0
  have d1 := (HT.box 0).c 1
  have d2 := (HT.box 0).c 2
  have d3 := (HT.box 0).c 3
  have d4 := (HT.box 0).c 4
  have d5 := (HT.box 0).c 5
  have d6 := (HT.box 0).c 6
  have d7 := (HT.box 0).c 7
  have d8 := (HT.box 0).c 8
  have d9 := (HT.box 0).c 9
  have d10 := (HT.box 0).c 10
  have d11 := (HT.box 0).c 11
  have f0 := (HT.box 0).f 0
  have f1 := (HT.box 0).f 1
  have f2 := (HT.box 0).f 2
  have f3 := (HT.box 0).f 3
  have f4 := (HT.box 0).f 4
  have f5 := (HT.box 0).f 5
  have f6 := (HT.box 0).f 6
  have f7 := (HT.box 0).f 7
  have f8 := (HT.box 0).f 8
  have f9 := (HT.box 0).f 9
  have f10 := (HT.box 0).f 10
  have f11 := (HT.box 0).f 11
  have r0 := (HT.box 1).c 0
  have r1 := (HT.box 1).c 1
  have r2 := (HT.box 1).c 2
  have r3 := (HT.box 1).c 3
  have r4 := (HT.box 1).c 4
  have r5 := (HT.box 1).c 5
  have r6 := (HT.box 1).c 6
  have r7 := (HT.box 1).c 7
  have r8 := (HT.box 1).c 8
  have r9 := (HT.box 1).c 9
  have r10 := (HT.box 1).c 10
  have r11 := (HT.box 1).c 11
  have g0 := (HT.box 1).f 0
  have g1 := (HT.box 1).f 1
  have g2 := (HT.box 1).f 2
  have g3 := (HT.box 1).f 3
  have g4 := (HT.box 1).f 4
  have g5 := (HT.box 1).f 5
  have g6 := (HT.box 1).f 6
  have g7 := (HT.box 1).f 7
  have g8 := (HT.box 1).f 8
  have g9 := (HT.box 1).f 9
  have g10 := (HT.box 1).f 10
  have g11 := (HT.box 1).f 11
  have HW := HT.below
  clear HT
  go_wp2_with fail
  exact bodyPost_ret (v := tr a0 a1 a2 a3 a4 a5 a6 a7 a8 x y z) (by simp [results, Try.results54, go_sem, r0, r1, r2, r3, r4, r5, r6, r7, r8, r9, r10, r11]) rfl ⟨rfl, bset_far12 HW (by omega)⟩

set_option maxHeartbeats 2000000 in
theorem eqMic_same (a0 a1 a2 a3 a4 a5 a6 a7 a8 x y z : Int) (w : World) :
    Calls Try.prog 52 #[tr a0 a1 a2 a3 a4 a5 a6 a7 a8 x y z, tr a0 a1 a2 a3 a4 a5 a6 a7 a8 x y z] w (BOut true w) := by
  have HT : Held w ((w.alloc (.cells #[.int .i64 a0, .int .i64 a1, .int .i64 a2, .int .i64 a3, .int .i64 a4, .int .i64 a5, .int .i64 a6, .int .i64 a7, .int .i64 a8, .int .i64 x, .int .i64 y, .int .i64 z] 45)).alloc (.cells #[.int .i64 a0, .int .i64 a1, .int .i64 a2, .int .i64 a3, .int .i64 a4, .int .i64 a5, .int .i64 a6, .int .i64 a7, .int .i64 a8, .int .i64 x, .int .i64 y, .int .i64 z] 45)) [(w.heap.size + 1, [.int .i64 a0, .int .i64 a1, .int .i64 a2, .int .i64 a3, .int .i64 a4, .int .i64 a5, .int .i64 a6, .int .i64 a7, .int .i64 a8, .int .i64 x, .int .i64 y, .int .i64 z]), (w.heap.size, [.int .i64 a0, .int .i64 a1, .int .i64 a2, .int .i64 a3, .int .i64 a4, .int .i64 a5, .int .i64 a6, .int .i64 a7, .int .i64 a8, .int .i64 x, .int .i64 y, .int .i64 z])] := by
    have h := ((Held.nil w).new #[.int .i64 a0, .int .i64 a1, .int .i64 a2, .int .i64 a3, .int .i64 a4, .int .i64 a5, .int .i64 a6, .int .i64 a7, .int .i64 a8, .int .i64 x, .int .i64 y, .int .i64 z] 45).new #[.int .i64 a0, .int .i64 a1, .int .i64 a2, .int .i64 a3, .int .i64 a4, .int .i64 a5, .int .i64 a6, .int .i64 a7, .int .i64 a8, .int .i64 x, .int .i64 y, .int .i64 z] 45
    simpa only [World.size_alloc] using h
  have c0 := (HT.box 1).range9
  have c1 := (HT.box 0).range9
  go_enter Try.func52, Try.ntmps52
  go_wp2_with fail
  refine (eqTriangle_same _ _ _ _ _ _ _ _ _ _).mono ?_
  rintro e w1 ⟨rfl, hb1⟩
  have HT := HT.later hb1
  clear hb1 c0 c1
  have c0 := (HT.box 1).c 0
  have c1 := (HT.box 1).c 1
  have c2 := (HT.box 1).c 2
  have c3 := (HT.box 1).c 3
  have c4 := (HT.box 1).c 4
  have c5 := (HT.box 1).c 5
  have c6 := (HT.box 1).c 6
  have c7 := (HT.box 1).c 7
  have c8 := (HT.box 1).c 8
  have c9 := (HT.box 1).c 9
  have c10 := (HT.box 1).c 10
  have c11 := (HT.box 1).c 11
  have d0 := (HT.box 0).c 0
  have d1 := (HT.box 0).c 1
  have d2 := (HT.box 0).c 2
  have d3 := (HT.box 0).c 3
  have d4 := (HT.box 0).c 4
  have d5 := (HT.box 0).c 5
  have d6 := (HT.box 0).c 6
  have d7 := (HT.box 0).c 7
  have d8 := (HT.box 0).c 8
  have d9 := (HT.box 0).c 9
  have d10 := (HT.box 0).c 10
  have d11 := (HT.box 0).c 11
  go_wp2_with fail
  go_ret
  exact ⟨rfl, HT.below⟩

set_option maxRecDepth 100000 in
set_option maxHeartbeats 8000000 in
theorem eqMicS_same (A A' : Option Addr) (c c' : Nat) (xs : List M4) (w : World) (hR : RowC 12 mgc w w.heap.size A xs) (hR' : RowC 12 mgc w w.heap.size A' xs) (hl : xs.length ≤ 1048576) :
    Calls Try.prog 21 #[.slice A xs.length c, .slice A' xs.length c'] w fun e w' => e = .returned (.bool true) ∧ Below w.heap.size w w' := by
  have HR := Lib.hid hR
  have HR' := Lib.hid hR'
  clear hR hR'
  go_enter Try.func21, Try.ntmps21
  go_wp2
  go_loopw [5] (fun i wr => ∃ k : Nat, k ≤ xs.length ∧ i = .int .i64 k ∧ Below w.heap.size w wr) (fun i _ => xs.length - (intOf i).toNat)
  case atStart => exact ⟨0, Nat.zero_le _, rfl, Below.refl _ _⟩
  case round =>
    obtain ⟨k, hk, rfl, hb⟩ := hrel
    have HB := Lib.hid hb
    clear hb
    by_cases hlt : k < xs.length
    · obtain ⟨b, o, rfl, hbl, hc⟩ := HR.out.at hlt
      obtain ⟨b', o', rfl, hbl', hc'⟩ := HR'.out.at hlt
      obtain ⟨p, hp⟩ : ∃ p, p = xs[k] := ⟨_, rfl⟩
      rw [← hp] at hc hc'
      have HK := Lib.hid (mgc_at hc)
      have HK' := Lib.hid (mgc_at hc')
      have hlI : (k : Int) < (xs.length : Int) := by omega
      have h0I : (0 : Int) ≤ (k : Int) := by omega
      have HC : ∀ W, Held w W [] → ((W.cell? ⟨b, o + k * 12, none⟩ = some (.int .i64 p.1.1) ∧ W.cell? ⟨b, o + k * 12 + 1, none⟩ = some (.int .i64 p.1.2.1) ∧ W.cell? ⟨b, o + k * 12 + 2, none⟩ = some (.int .i64 p.1.2.2) ∧ W.cell? ⟨b, o + k * 12 + 3, none⟩ = some (.int .i64 p.2.1.1) ∧ W.cell? ⟨b, o + k * 12 + 4, none⟩ = some (.int .i64 p.2.1.2.1) ∧ W.cell? ⟨b, o + k * 12 + 5, none⟩ = some (.int .i64 p.2.1.2.2) ∧ W.cell? ⟨b, o + k * 12 + 6, none⟩ = some (.int .i64 p.2.2.1.1) ∧ W.cell? ⟨b, o + k * 12 + 7, none⟩ = some (.int .i64 p.2.2.1.2.1) ∧ W.cell? ⟨b, o + k * 12 + 8, none⟩ = some (.int .i64 p.2.2.1.2.2) ∧ W.cell? ⟨b, o + k * 12 + 9, none⟩ = some (.int .i64 p.2.2.2.1) ∧ W.cell? ⟨b, o + k * 12 + 10, none⟩ = some (.int .i64 p.2.2.2.2.1) ∧ W.cell? ⟨b, o + k * 12 + 11, none⟩ = some (.int .i64 p.2.2.2.2.2)) ∧ (W.cell? ⟨b', o' + k * 12, none⟩ = some (.int .i64 p.1.1) ∧ W.cell? ⟨b', o' + k * 12 + 1, none⟩ = some (.int .i64 p.1.2.1) ∧ W.cell? ⟨b', o' + k * 12 + 2, none⟩ = some (.int .i64 p.1.2.2) ∧ W.cell? ⟨b', o' + k * 12 + 3, none⟩ = some (.int .i64 p.2.1.1) ∧ W.cell? ⟨b', o' + k * 12 + 4, none⟩ = some (.int .i64 p.2.1.2.1) ∧ W.cell? ⟨b', o' + k * 12 + 5, none⟩ = some (.int .i64 p.2.1.2.2) ∧ W.cell? ⟨b', o' + k * 12 + 6, none⟩ = some (.int .i64 p.2.2.1.1) ∧ W.cell? ⟨b', o' + k * 12 + 7, none⟩ = some (.int .i64 p.2.2.1.2.1) ∧ W.cell? ⟨b', o' + k * 12 + 8, none⟩ = some (.int .i64 p.2.2.1.2.2) ∧ W.cell? ⟨b', o' + k * 12 + 9, none⟩ = some (.int .i64 p.2.2.2.1) ∧ W.cell? ⟨b', o' + k * 12 + 10, none⟩ = some (.int .i64 p.2.2.2.2.1) ∧ W.cell? ⟨b', o' + k * 12 + 11, none⟩ = some (.int .i64 p.2.2.2.2.2))) := fun W h => ⟨⟨(h.below.cell (p := ⟨b, o + k * 12, none⟩) hbl).trans HK.out.1, (h.below.cell (p := ⟨b, o + k * 12 + 1, none⟩) hbl).trans HK.out.2.1, (h.below.cell (p := ⟨b, o + k * 12 + 2, none⟩) hbl).trans HK.out.2.2.1, (h.below.cell (p := ⟨b, o + k * 12 + 3, none⟩) hbl).trans HK.out.2.2.2.1, (h.below.cell (p := ⟨b, o + k * 12 + 4, none⟩) hbl).trans HK.out.2.2.2.2.1, (h.below.cell (p := ⟨b, o + k * 12 + 5, none⟩) hbl).trans HK.out.2.2.2.2.2.1, (h.below.cell (p := ⟨b, o + k * 12 + 6, none⟩) hbl).trans HK.out.2.2.2.2.2.2.1, (h.below.cell (p := ⟨b, o + k * 12 + 7, none⟩) hbl).trans HK.out.2.2.2.2.2.2.2.1, (h.below.cell (p := ⟨b, o + k * 12 + 8, none⟩) hbl).trans HK.out.2.2.2.2.2.2.2.2.1, (h.below.cell (p := ⟨b, o + k * 12 + 9, none⟩) hbl).trans HK.out.2.2.2.2.2.2.2.2.2.1, (h.below.cell (p := ⟨b, o + k * 12 + 10, none⟩) hbl).trans HK.out.2.2.2.2.2.2.2.2.2.2.1, (h.below.cell (p := ⟨b, o + k * 12 + 11, none⟩) hbl).trans HK.out.2.2.2.2.2.2.2.2.2.2.2⟩, (h.below.cell (p := ⟨b', o' + k * 12, none⟩) hbl').trans HK'.out.1, (h.below.cell (p := ⟨b', o' + k * 12 + 1, none⟩) hbl').trans HK'.out.2.1, (h.below.cell (p := ⟨b', o' + k * 12 + 2, none⟩) hbl').trans HK'.out.2.2.1, (h.below.cell (p := ⟨b', o' + k * 12 + 3, none⟩) hbl').trans HK'.out.2.2.2.1, (h.below.cell (p := ⟨b', o' + k * 12 + 4, none⟩) hbl').trans HK'.out.2.2.2.2.1, (h.below.cell (p := ⟨b', o' + k * 12 + 5, none⟩) hbl').trans HK'.out.2.2.2.2.2.1, (h.below.cell (p := ⟨b', o' + k * 12 + 6, none⟩) hbl').trans HK'.out.2.2.2.2.2.2.1, (h.below.cell (p := ⟨b', o' + k * 12 + 7, none⟩) hbl').trans HK'.out.2.2.2.2.2.2.2.1, (h.below.cell (p := ⟨b', o' + k * 12 + 8, none⟩) hbl').trans HK'.out.2.2.2.2.2.2.2.2.1, (h.below.cell (p := ⟨b', o' + k * 12 + 9, none⟩) hbl').trans HK'.out.2.2.2.2.2.2.2.2.2.1, (h.below.cell (p := ⟨b', o' + k * 12 + 10, none⟩) hbl').trans HK'.out.2.2.2.2.2.2.2.2.2.2.1, (h.below.cell (p := ⟨b', o' + k * 12 + 11, none⟩) hbl').trans HK'.out.2.2.2.2.2.2.2.2.2.2.2⟩
      have HQ : Held w wr [] := ⟨HB.out, fun i k vs h => by simp at h⟩
      clear hp hc hc'
      go_wp2_with fail
      go_region_held3 (fun W => (W.cell? ⟨b, o + k * 12, none⟩ = some (.int .i64 p.1.1) ∧ W.cell? ⟨b, o + k * 12 + 1, none⟩ = some (.int .i64 p.1.2.1) ∧ W.cell? ⟨b, o + k * 12 + 2, none⟩ = some (.int .i64 p.1.2.2) ∧ W.cell? ⟨b, o + k * 12 + 3, none⟩ = some (.int .i64 p.2.1.1) ∧ W.cell? ⟨b, o + k * 12 + 4, none⟩ = some (.int .i64 p.2.1.2.1) ∧ W.cell? ⟨b, o + k * 12 + 5, none⟩ = some (.int .i64 p.2.1.2.2) ∧ W.cell? ⟨b, o + k * 12 + 6, none⟩ = some (.int .i64 p.2.2.1.1) ∧ W.cell? ⟨b, o + k * 12 + 7, none⟩ = some (.int .i64 p.2.2.1.2.1) ∧ W.cell? ⟨b, o + k * 12 + 8, none⟩ = some (.int .i64 p.2.2.1.2.2) ∧ W.cell? ⟨b, o + k * 12 + 9, none⟩ = some (.int .i64 p.2.2.2.1) ∧ W.cell? ⟨b, o + k * 12 + 10, none⟩ = some (.int .i64 p.2.2.2.2.1) ∧ W.cell? ⟨b, o + k * 12 + 11, none⟩ = some (.int .i64 p.2.2.2.2.2)) ∧ (W.cell? ⟨b', o' + k * 12, none⟩ = some (.int .i64 p.1.1) ∧ W.cell? ⟨b', o' + k * 12 + 1, none⟩ = some (.int .i64 p.1.2.1) ∧ W.cell? ⟨b', o' + k * 12 + 2, none⟩ = some (.int .i64 p.1.2.2) ∧ W.cell? ⟨b', o' + k * 12 + 3, none⟩ = some (.int .i64 p.2.1.1) ∧ W.cell? ⟨b', o' + k * 12 + 4, none⟩ = some (.int .i64 p.2.1.2.1) ∧ W.cell? ⟨b', o' + k * 12 + 5, none⟩ = some (.int .i64 p.2.1.2.2) ∧ W.cell? ⟨b', o' + k * 12 + 6, none⟩ = some (.int .i64 p.2.2.1.1) ∧ W.cell? ⟨b', o' + k * 12 + 7, none⟩ = some (.int .i64 p.2.2.1.2.1) ∧ W.cell? ⟨b', o' + k * 12 + 8, none⟩ = some (.int .i64 p.2.2.1.2.2) ∧ W.cell? ⟨b', o' + k * 12 + 9, none⟩ = some (.int .i64 p.2.2.2.1) ∧ W.cell? ⟨b', o' + k * 12 + 10, none⟩ = some (.int .i64 p.2.2.2.2.1) ∧ W.cell? ⟨b', o' + k * 12 + 11, none⟩ = some (.int .i64 p.2.2.2.2.2)))
        (first | (with_reducible exact HC _ HQ) | (with_reducible exact HC _ HQ.drew))
        (first | (go_at_call 52; refine (eqMic_same _ _ _ _ _ _ _ _ _ _ _ _ _).mono ?_; rintro e w7 ⟨rfl, hb7⟩; (first | (have HQ := HQ.later hb7) | (have HQ := HQ.drew.later hb7))))
      all_goals
        have HB7 := Lib.hid HQ.below
        clear HQ HC
        go_wp2_with fail
        go_roundw
        case rel => exact ⟨k + 1, by omega, by go_num, HB7.out⟩
        case measure => simp [intOf]; omega
    · have e : k = xs.length := by omega
      clear e
      go_wp2
      go_ret
      exact ⟨rfl, HB.out⟩

set_option maxHeartbeats 4000000 in
theorem markMicS_any (A : Option Addr) (c base k : Nat) (xs : List M4) (w : World) (ho : w.ownsRow base 45 12 (.slice A xs.length c) xs.length (xs.flatMap mgc)) (hk2 : k + 3 * xs.length ≤ 4611686018427387904) :
    Calls Try.prog 22 #[.slice A xs.length c, .int .i64 k] w fun e w' => e = .returned (.int .i64 ((k + 3 * xs.length : Nat) : Int)) ∧ w'.ownsRow base 45 12 (.slice A xs.length c) xs.length ((mkIn k xs.length xs).flatMap mgc) ∧ Below base w w' := by
  have HO := Lib.hid ho
  clear ho
  go_enter Try.func22, Try.ntmps22
  go_wp2
  go_loopw [1, 5] (fun m i wr => ∃ j : Nat, j ≤ xs.length ∧ i = .int .i64 j ∧ m = .int .i64 ((k + 3 * j : Nat) : Int) ∧ wr.ownsRow base 45 12 (.slice A xs.length c) xs.length ((mkIn k j xs).flatMap mgc) ∧ Below base w wr) (fun _ i _ => xs.length - (intOf i).toNat)
  case atStart => exact ⟨0, Nat.zero_le _, rfl, rfl, by rw [mkIn_zero]; exact HO.out, Below.refl _ _⟩
  case round =>
    obtain ⟨j, hj, rfl, rfl, hown, hb⟩ := hrel
    clear HO
    have HO := Lib.hid hown
    have HB := Lib.hid hb
    clear hown hb
    by_cases hlt : j < xs.length
    · obtain ⟨A0, hA⟩ : ∃ g, A = some ⟨g, 0, none⟩ := by
        rcases HO.out.2 with ⟨h, h0⟩ | ⟨g, cap, cur, h, _⟩
        · omega
        · injection h with h; exact ⟨g, h⟩
      subst hA
      have hge := own_block HO.out A0 rfl
      have d0 := own_mic HO.out (mkIn_len _ _ _) hlt 9 (by omega)
      have d1 := own_mic HO.out (mkIn_len _ _ _) hlt 10 (by omega)
      have d2 := own_mic HO.out (mkIn_len _ _ _) hlt 11 (by omega)
      obtain ⟨q, hq⟩ : ∃ q, q = (mkIn k j xs)[j]'(by rw [mkIn_len]; exact hlt) := ⟨_, rfl⟩
      rw [← hq] at d0 d1 d2
      have d0 : wr.cell? ⟨A0, j * 12 + 9, none⟩ = some (.int .i64 q.2.2.2.1) := d0
      have d1 : wr.cell? ⟨A0, j * 12 + 10, none⟩ = some (.int .i64 q.2.2.2.2.1) := d1
      have d2 : wr.cell? ⟨A0, j * 12 + 11, none⟩ = some (.int .i64 q.2.2.2.2.2) := d2
      clear hq
      have f0 := HO.out.frozenAt (j * 12 + 9)
      have f1 := HO.out.frozenAt (j * 12 + 10)
      have f2 := HO.out.frozenAt (j * 12 + 11)
      have hs := (((HO.out.stored (j * 12 + 9) (.int .i64 ((k + 3 * j : Nat) : Int))).1.stored (j * 12 + 10) (.int .i64 ((k + 3 * j + 1 : Nat) : Int))).1.stored (j * 12 + 11) (.int .i64 ((k + 3 * j + 2 : Nat) : Int))).1
      rw [mk_set _ _ _ hlt] at hs
      have hs' := ((HB.out.setCell (p := ⟨A0, j * 12 + 9, none⟩) hge (.int .i64 ((k + 3 * j : Nat) : Int))).setCell (p := ⟨A0, j * 12 + 10, none⟩) hge (.int .i64 ((k + 3 * j + 1 : Nat) : Int))).setCell (p := ⟨A0, j * 12 + 11, none⟩) hge (.int .i64 ((k + 3 * j + 2 : Nat) : Int))
      obtain ⟨m, hm⟩ : ∃ m : Int, m = ((k + 3 * j : Nat) : Int) := ⟨_, rfl⟩
      have e1 : ((k + 3 * j + 1 : Nat) : Int) = m + 1 := by omega
      have e2 : ((k + 3 * j + 2 : Nat) : Int) = m + 1 + 1 := by omega
      have e3 : ((k + 3 * (j + 1) : Nat) : Int) = m + 1 + 1 + 1 := by omega
      rw [← hm, e1, e2] at hs hs'
      have hmb : 0 ≤ m ∧ m ≤ 4611686018427387904 := by omega
      rw [← hm]
      have HS := Lib.hid hs
      have HS' := Lib.hid hs'
      have HE3 := Lib.hid e3
      have hlt' : (j : Int) < (xs.length : Int) := by omega
      have hge' : (0 : Int) ≤ (j : Int) := by omega
      clear hs hs' e1 e2 e3 hm HO HB
      go_wp2
      go_roundw
      case rel => exact ⟨j + 1, by omega, by go_num, by rw [HE3.out], HS.out, HS'.out⟩
      case measure => simp [intOf]; omega
    · have e : j = xs.length := by omega
      have HO2 : Hid (wr.ownsRow base 45 12 (.slice A xs.length c) xs.length ((mkIn k xs.length xs).flatMap mgc)) := by have := HO.out; rw [e] at this; exact this
      have HE := Lib.hid e
      clear e HO
      go_wp2
      go_ret
      exact ⟨ret_intD (by have := HE.out; omega), HO2.out, HB.out⟩

set_option maxHeartbeats 4000000 in
theorem heldMicS_any (A : Option Addr) (c k : Nat) (xs : List M4) (w : World) (hR : RowC 12 mgc w w.heap.size A (mkIn k xs.length xs)) (hk2 : k + 3 * xs.length ≤ 4611686018427387904) :
    Calls Try.prog 23 #[.slice A xs.length c, .int .i64 k] w fun e w' => e = .returned (.int .i64 ((k + 3 * xs.length : Nat) : Int)) ∧ Below w.heap.size w w' := by
  have HR := Lib.hid hR
  clear hR
  go_enter Try.func23, Try.ntmps23
  go_wp2
  go_loopw [1, 5] (fun m i wr => ∃ j : Nat, j ≤ xs.length ∧ i = .int .i64 j ∧ m = .int .i64 ((k + 3 * j : Nat) : Int) ∧ Below w.heap.size w wr) (fun _ i _ => xs.length - (intOf i).toNat)
  case atStart => exact ⟨0, Nat.zero_le _, rfl, rfl, Below.refl _ _⟩
  case round =>
    obtain ⟨j, hj, rfl, rfl, hb⟩ := hrel
    have HB := Lib.hid hb
    clear hb
    by_cases hlt : j < xs.length
    · obtain ⟨b, o, rfl, hbl, hc⟩ := HR.out.at (k := j) (by rw [mkIn_len]; exact hlt)
      rw [mkIn_at, if_pos hlt] at hc
      have c0 := hc 9 (.int .i64 ((k + 3 * j : Nat) : Int)) rfl
      have c1 := hc 10 (.int .i64 ((k + 3 * j + 1 : Nat) : Int)) rfl
      have c2 := hc 11 (.int .i64 ((k + 3 * j + 2 : Nat) : Int)) rfl
      have c0 := (HB.out.cell (p := ⟨b, o + j * 12 + 9, none⟩) hbl).trans c0
      have c1 := (HB.out.cell (p := ⟨b, o + j * 12 + 10, none⟩) hbl).trans c1
      have c2 := (HB.out.cell (p := ⟨b, o + j * 12 + 11, none⟩) hbl).trans c2
      obtain ⟨m, hm⟩ : ∃ m : Int, m = ((k + 3 * j : Nat) : Int) := ⟨_, rfl⟩
      have e1 : ((k + 3 * j + 1 : Nat) : Int) = m + 1 := by omega
      have e2 : ((k + 3 * j + 2 : Nat) : Int) = m + 1 + 1 := by omega
      have e3 : ((k + 3 * (j + 1) : Nat) : Int) = m + 1 + 1 + 1 := by omega
      rw [← hm] at c0 ⊢
      rw [e1] at c1
      rw [e2] at c2
      have hmb : 0 ≤ m ∧ m ≤ 4611686018427387904 := by omega
      have HE3 := Lib.hid e3
      have hlt' : (j : Int) < (xs.length : Int) := by omega
      have hge' : (0 : Int) ≤ (j : Int) := by omega
      clear e1 e2 e3 hm hc
      go_wp2
      go_roundw
      case rel => exact ⟨j + 1, by omega, by go_num, by rw [HE3.out], HB.out⟩
      case measure => simp [intOf]; omega
    · have HE : Hid (j = xs.length) := Lib.hid (by omega)
      go_wp2
      go_ret
      exact ⟨ret_intD (by have := HE.out; omega), HB.out⟩

theorem szMicS_yes (A : Option Addr) (c n : Nat) (m : Int) (w : World) (h : (n : Int) ≤ m) (hm : m ≤ 4611686018427387904) :
    Calls Try.prog 27 #[.slice A n c, .int .i64 m] w fun e w' => e = .returned (.int .i64 (m - n)) ∧ w = w' := by
  go_enter Try.func27, Try.ntmps27
  go_wp2_with fail
  go_ret
  exact ⟨rfl, rfl⟩
theorem szMicS_no (A : Option Addr) (c n : Nat) (m : Int) (w : World) (h : m < (n : Int)) (h0 : 0 ≤ m) (hn : n ≤ maxLen) :
    Calls Try.prog 27 #[.slice A n c, .int .i64 m] w fun e w' => e = .returned (.int .i64 (-1)) ∧ w = w' := by
  unfold maxLen at hn
  go_enter Try.func27, Try.ntmps27
  go_wp2_with fail
  go_ret
  exact ⟨rfl, rfl⟩
end Go.Proofs.Ytmhcpjednogegaa
