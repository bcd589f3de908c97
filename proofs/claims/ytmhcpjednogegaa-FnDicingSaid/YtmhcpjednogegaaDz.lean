/- The micropolygons of the four quarters of a patch are those of the patch. -/
import Derived.Test.YtmhcpjednogegaaProg
import Derived.Test.YtmhcpjednogegaaInts
import Derived.Test.YtmhcpjednogegaaVbox
import Derived.Test.YtmhcpjednogegaaVec
import Derived.Test.YtmhcpjednogegaaHeld
import Derived.Test.YtmhcpjednogegaaMem
import Derived.Test.YtmhcpjednogegaaFlat
import Derived.Test.YtmhcpjednogegaaRowC
import Derived.Test.YtmhcpjednogegaaArr
import Derived.Test.YtmhcpjednogegaaTr
import Derived.Test.YtmhcpjednogegaaPat
import Derived.Test.YtmhcpjednogegaaVecS
import Derived.Test.YtmhcpjednogegaaSub
import Derived.Test.YtmhcpjednogegaaSplW
import Derived.Test.YtmhcpjednogegaaCam
import Derived.Test.YtmhcpjednogegaaCPrj
import Derived.Test.YtmhcpjednogegaaTri
import Derived.Test.YtmhcpjednogegaaTSm
import Derived.Test.YtmhcpjednogegaaDv
import Derived.Test.YtmhcpjednogegaaDp
import Derived.Test.YtmhcpjednogegaaDt
import Derived.Test.YtmhcpjednogegaaDm
import Derived.Test.YtmhcpjednogegaaDx
import Derived.WalkKit
import Derived.WalkSpells
import Derived.WalkLawsBesides
import Derived.Lib.Hide
import Derived.Handy
import Derived.Laws.StructEq
namespace Go.Proofs.Ytmhcpjednogegaa
open Go.RowKit

/-- a cell, by its place in whole numbers -/
def cellN (C : CV) (P : PV) (l m : Int) (n a b : Nat) : List M4 := cellL C P l m (a : Int) (b : Int) (n : Int)
theorem whole_part (C : CV) (P : PV) (l m : Int) (n : Nat) (h : 1 ≤ n ∧ n ≤ 8) : subL C P l m 0 0 1 (n : Int) = partL (cellN C P l m n) n (n * n) := by
  have hk : subOkD 0 0 1 (n : Int) = true := by
    unfold subOkD
    rw [show okS 0 0 1 = true from rfl, Int.tmod_one, (inC_iff ..).2 ⟨by omega, by omega⟩]
    rfl
  unfold subL
  rw [if_pos hk, Int.tdiv_one, Int.toNat_natCast]
  congr 1
  funext c r
  simp [subF, cellN]
/-- a quarter -/
def partD (C : CV) (P : PV) (l m : Int) (n i : Nat) : List M4 := subL C P l m ((i % 2 : Nat) : Int) ((i / 2 : Nat) : Int) 2 (n : Int)
theorem quarter_part (C : CV) (P : PV) (l m : Int) (k i : Nat) (h : 1 ≤ k ∧ k ≤ 4) (hi : i < 4) : partD C P l m (2 * k) i = partL (fun c r => cellN C P l m (2 * k) (i % 2 * k + c) (i / 2 * k + r)) k (k * k) := by
  have e2 : ((2 * k : Nat) : Int) = (k : Int) * 2 := by omega
  have ed : ((2 * k : Nat) : Int).tdiv 2 = (k : Int) := by rw [e2]; exact Int.mul_tdiv_cancel _ (by omega)
  have em : ((2 * k : Nat) : Int).tmod 2 = 0 := by rw [e2]; exact Int.mul_tmod_left _ _
  have hk : subOkD ((i % 2 : Nat) : Int) ((i / 2 : Nat) : Int) 2 ((2 * k : Nat) : Int) = true := by
    unfold subOkD
    rw [(okS_iff ..).2 ⟨by omega, by omega, by omega⟩, (inC_iff ..).2 ⟨by omega, by omega⟩, em]
    rfl
  unfold partD subL
  rw [if_pos hk, ed, Int.toNat_natCast]
  rfl
theorem mem_partL {f : Nat → Nat → List M4} {s t : Nat} {p : M4} : p ∈ partL f s t ↔ ∃ i, i < t ∧ p ∈ f (i % s) (i / s) := by
  unfold partL
  rw [List.mem_flatMap]
  constructor
  · rintro ⟨i, hi, h⟩; exact ⟨i, List.mem_range.1 hi, h⟩
  · rintro ⟨i, hi, h⟩; exact ⟨i, List.mem_range.2 hi, h⟩
theorem quarter_mem {C : CV} {P : PV} {l m : Int} {k i : Nat} {p : M4} (h : 1 ≤ k ∧ k ≤ 4) (hi : i < 4) (hp : p ∈ partD C P l m (2 * k) i) : p ∈ subL C P l m 0 0 1 ((2 * k : Nat) : Int) := by
  rw [quarter_part C P l m k i h hi] at hp
  rw [whole_part C P l m (2 * k) (by omega)]
  obtain ⟨j, hj, hp⟩ := mem_partL.1 hp
  have hc : j % k < k := Nat.mod_lt _ (by omega)
  have hr : j / k < k := Nat.div_lt_of_lt_mul hj
  have hq : i % 2 < 2 := Nat.mod_lt _ (by omega)
  have hs : i / 2 < 2 := by omega
  have ha : i % 2 * k + j % k < 2 * k := by
    have : i % 2 * k ≤ 1 * k := Nat.mul_le_mul_right _ (by omega)
    omega
  have hb : i / 2 * k + j / k < 2 * k := by
    have : i / 2 * k ≤ 1 * k := Nat.mul_le_mul_right _ (by omega)
    omega
  generalize i % 2 * k + j % k = a at ha hp
  generalize i / 2 * k + j / k = b at hb hp
  refine mem_partL.2 ⟨2 * k * b + a, ?_, ?_⟩
  · have : 2 * k * (b + 1) ≤ 2 * k * (2 * k) := Nat.mul_le_mul_left _ hb
    rw [Nat.mul_succ] at this
    omega
  · rw [Nat.mul_add_mod, Nat.mod_eq_of_lt ha, Nat.mul_add_div (by omega), Nat.div_eq_of_lt ha, Nat.add_zero]
    exact hp
theorem len_partL (f : Nat → Nat → List M4) (s t : Nat) : (partL f s t).length = ((List.range t).map fun i => (f (i % s) (i / s)).length).sum := by
  unfold partL
  rw [List.length_flatMap]
theorem count_quarters (F : Nat → Nat → List M4) (k : Nat) (h : k = 1 ∨ k = 2 ∨ k = 4) :
    (partL (fun c r => F (0 * k + c) (0 * k + r)) k (k * k)).length + (partL (fun c r => F (1 * k + c) (0 * k + r)) k (k * k)).length + (partL (fun c r => F (0 * k + c) (1 * k + r)) k (k * k)).length + (partL (fun c r => F (1 * k + c) (1 * k + r)) k (k * k)).length = (partL F (2 * k) (2 * k * (2 * k))).length := by
  simp only [len_partL]
  obtain ⟨G, hG⟩ : ∃ G : Nat → Nat → Nat, ∀ a b, (F a b).length = G a b := ⟨fun a b => (F a b).length, fun _ _ => rfl⟩
  simp only [hG]
  clear hG
  rcases h with rfl | rfl | rfl
  · have e : List.range (2 * 1 * (2 * 1)) = [0, 1, 2, 3] := rfl
    have e1 : List.range (1 * 1) = [0] := rfl
    simp only [e, e1, List.map_cons, List.map_nil, List.sum_cons, List.sum_nil, Nat.reduceMod, Nat.reduceDiv, Nat.reduceMul, Nat.add_zero]
    omega
  · have e : List.range (2 * 2 * (2 * 2)) = [0, 1, 2, 3, 4, 5, 6, 7, 8, 9, 10, 11, 12, 13, 14, 15] := rfl
    have e1 : List.range (2 * 2) = [0, 1, 2, 3] := rfl
    simp only [e, e1, List.map_cons, List.map_nil, List.sum_cons, List.sum_nil, Nat.reduceMod, Nat.reduceDiv, Nat.reduceMul, Nat.reduceAdd, Nat.add_zero]
    omega
  · have e : List.range (2 * 4 * (2 * 4)) = [0, 1, 2, 3, 4, 5, 6, 7, 8, 9, 10, 11, 12, 13, 14, 15, 16, 17, 18, 19, 20, 21, 22, 23, 24, 25, 26, 27, 28, 29, 30, 31, 32, 33, 34, 35, 36, 37, 38, 39, 40, 41, 42, 43, 44, 45, 46, 47, 48, 49, 50, 51, 52, 53, 54, 55, 56, 57, 58, 59, 60, 61, 62, 63] := rfl
    have e1 : List.range (4 * 4) = [0, 1, 2, 3, 4, 5, 6, 7, 8, 9, 10, 11, 12, 13, 14, 15] := rfl
    simp only [e, e1, List.map_cons, List.map_nil, List.sum_cons, List.sum_nil, Nat.reduceMod, Nat.reduceDiv, Nat.reduceMul, Nat.reduceAdd, Nat.add_zero]
    omega
def dcnt (C : CV) (P : PV) (l m : Int) (n k : Nat) : Nat := ((List.range k).map fun i => (partD C P l m n i).length).sum
theorem dcnt_step (C : CV) (P : PV) (l m : Int) (n k : Nat) : dcnt C P l m n (k + 1) = dcnt C P l m n k + (partD C P l m n k).length := by
  unfold dcnt
  rw [List.range_succ, List.map_append, List.sum_append]
  simp
theorem partD_len (C : CV) (P : PV) (l m : Int) (n i : Nat) : (partD C P l m n i).length ≤ 128 := subL_len ..
theorem dcnt_le (C : CV) (P : PV) (l m : Int) (n k : Nat) : dcnt C P l m n k ≤ 128 * k := by
  induction k with
  | zero => simp [dcnt]
  | succ k ih => rw [dcnt_step]; have := partD_len C P l m n k; omega
theorem dcnt_four (C : CV) (P : PV) (l m : Int) (k : Nat) (h : k = 1 ∨ k = 2 ∨ k = 4) : dcnt C P l m (2 * k) 4 = (subL C P l m 0 0 1 ((2 * k : Nat) : Int)).length := by
  rw [whole_part C P l m (2 * k) (by omega), ← count_quarters (cellN C P l m (2 * k)) k h]
  have h0 := quarter_part C P l m k 0 (by omega) (by omega)
  have h1 := quarter_part C P l m k 1 (by omega) (by omega)
  have h2 := quarter_part C P l m k 2 (by omega) (by omega)
  have h3 := quarter_part C P l m k 3 (by omega) (by omega)
  simp only [Nat.reduceMod, Nat.reduceDiv] at h0 h1 h2 h3
  rw [← h0, ← h1, ← h2, ← h3]
  unfold dcnt
  rw [show List.range 4 = [0, 1, 2, 3] from rfl]
  simp only [List.map_cons, List.map_nil, List.sum_cons, List.sum_nil]
  omega
theorem sameM_self (p : M4) : sameM p p = true := by simp [sameM, sameT, veqB]
theorem all_found {C : CV} {P : PV} {l m : Int} {k i j : Nat} (h : 1 ≤ k ∧ k ≤ 4) (hi : i < 4) (hj : j < (partD C P l m (2 * k) i).length) : ∃ (e : Nat) (he : e < (subL C P l m 0 0 1 ((2 * k : Nat) : Int)).length), sameM (subL C P l m 0 0 1 ((2 * k : Nat) : Int))[e] ((partD C P l m (2 * k) i)[j]) = true := by
  obtain ⟨e, he, e1⟩ := List.getElem_of_mem (quarter_mem h hi (List.getElem_mem hj))
  exact ⟨e, he, by rw [e1]; exact sameM_self _⟩
theorem eqm_mic (p q : M4) (w : World) : (binOp .eql 45 (tr p.1.1 p.1.2.1 p.1.2.2 p.2.1.1 p.2.1.2.1 p.2.1.2.2 p.2.2.1.1 p.2.2.1.2.1 p.2.2.1.2.2 p.2.2.2.1 p.2.2.2.2.1 p.2.2.2.2.2) (tr q.1.1 q.1.2.1 q.1.2.2 q.2.1.1 q.2.1.2.1 q.2.1.2.2 q.2.2.1.1 q.2.2.1.2.1 q.2.2.1.2.2 q.2.2.2.1 q.2.2.2.2.1 q.2.2.2.2.2)).run Try.prog w = .ok (.bool (sameM p q)) w := by
  rw [run_eql_struct, eql_mic]; rfl
theorem quar_at (i : Nat) (h : i < 4) : (quar 0 0 1)[i]? = some (((i % 2 : Nat) : Int), ((i / 2 : Nat) : Int), 2) := by
  have : i = 0 ∨ i = 1 ∨ i = 2 ∨ i = 3 := by omega
  rcases this with rfl | rfl | rfl | rfl <;> rfl
theorem rate_pos {C : CV} {P : PV} (hC : C.ok = true) (hP : P.ok = true) : 0 < rateA C P 1000 := by
  have h : rateIn C P 1000 = true := by unfold rateIn; rw [hC, hP]; rfl
  unfold rateA rateV
  rw [if_pos h]
  (repeat' split) <;> omega
theorem small_okD {ps : List V3} (h : ∀ v ∈ ps, (-1000 ≤ v.1 ∧ v.1 ≤ 1000) ∧ (-1000 ≤ v.2.1 ∧ v.2.1 ≤ 1000) ∧ (-1000 ≤ v.2.2 ∧ v.2.2 ≤ 1000)) : okP ps = true := List.all_eq_true.2 fun v hv => by
  have := h v hv
  exact (okB_iff ..).2 ⟨by omega, by omega, by omega⟩
end Go.Proofs.Ytmhcpjednogegaa
