/- The laws' own helpers on programs, on: toProgram. -/
import Derived.Test.YtkbdnjhgcoihhaaGreatDoorProg
import Derived.Test.YtkbdnjhgcoihhaaGreatDoorInts
import Derived.Test.YtkbdnjhgcoihhaaGreatDoorVbox
import Derived.Test.YtkbdnjhgcoihhaaGreatDoorHeld
import Derived.Test.YtkbdnjhgcoihhaaGreatDoorMem
import Derived.Test.YtkbdnjhgcoihhaaGreatDoorFlat
import Derived.Test.YtkbdnjhgcoihhaaGreatDoorRowC
import Derived.Test.YtkbdnjhgcoihhaaGreatDoorKS
import Derived.Test.YtkbdnjhgcoihhaaGreatDoorStrS
import Derived.Test.YtkbdnjhgcoihhaaGreatDoorIntS
import Derived.Test.YtkbdnjhgcoihhaaGreatDoorSS
import Derived.Test.YtkbdnjhgcoihhaaGreatDoorPg
import Derived.Test.YtkbdnjhgcoihhaaGreatDoorPh
import Derived.WalkKit
import Derived.WalkSpells
import Derived.WalkLawsBesides
import Derived.Lib.Hide
import Derived.Deep.RegionHeld3
import Derived.Deep.QuietTactic
import Derived.BigQuiet
import Derived.Handy
import Derived.Deep.DeepCutAuto
namespace Go.Proofs.YtkbdnjhgcoihhaaGreatDoor
open Go.RowKit
theorem Mbox.of_ownP {α : Type} {f : α → Value} {w : World} {base g c n : Nat} {e : TypeId} {xs : List α} (h : w.ownsRow base e 1 (.slice (some ⟨g, 0, none⟩) n c) n (xs.map f)) : Mbox w g (xs.map f) := fun i v hv => by
  have hl := h.1
  have hi : i < n * 1 := by
    have := (List.getElem?_eq_some_iff.1 hv).1
    omega
  have := h.cellAt i hi
  rw [hv] at this
  exact ⟨this, h.frozenAt i⟩



abbrev V4c := Value × Value × Value × Value
def g4 (v : V4c) : List Value := [v.1, v.2.1, v.2.2.1, v.2.2.2]
theorem g4_len (v : V4c) : (g4 v).length = 4 := rfl
theorem g4_set (xs : List V4c) : ∀ (k : Nat) (v : V4c), ((((xs.flatMap g4).set (k * 4) v.1).set (k * 4 + 1) v.2.1).set (k * 4 + 2) v.2.2.1).set (k * 4 + 3) v.2.2.2 = (xs.set k v).flatMap g4 := by
  induction xs with
  | nil => intro k v; simp
  | cons x xs ih =>
    intro k v
    match k with
    | 0 => simp [g4]
    | k + 1 =>
      have := ih k v
      simp only [List.flatMap_cons, List.set_cons_succ]
      rw [← this]
      have e0 : (k + 1) * 4 = k * 4 + 1 + 1 + 1 + 1 := by omega
      rw [e0]
      simp [g4]
theorem madeP4 (a b c d : Value) (n : Nat) : ∀ (k j : Nat), k < n → j < 4 → ((madeCells #[a, b, c, d] (n * 4)).toList)[k * 4 + j]? = ([a, b, c, d] : List Value)[j]? := by
  intro k j hk hj
  have hlt : k * 4 + j < n * 4 := by omega
  have e : (k * 4 + j) % 4 = j := by omega
  have : j = 0 ∨ j = 1 ∨ j = 2 ∨ j = 3 := by omega
  rcases this with rfl | rfl | rfl | rfl <;>
    (simp only [madeCells, Array.toList_map, Array.toList_range, List.getElem?_map]
     rw [List.getElem?_range (by omega)]
     simp only [Option.map_some]
     simp [e])
theorem made_g4 (v : V4c) (n : Nat) : (madeCells #[v.1, v.2.1, v.2.2.1, v.2.2.2] (n * 4)).toList = (List.replicate n v).flatMap g4 := by
  apply List.ext_getElem?
  intro i
  by_cases h : i < n * 4
  · obtain ⟨k, j, rfl, hj⟩ : ∃ k j, i = k * 4 + j ∧ j < 4 := ⟨i / 4, i % 4, by omega, by omega⟩
    have hk : k < n := by omega
    rw [madeP4 _ _ _ _ n k j hk hj, flat_get g4_len _ k j (by simpa using hk) hj, List.getElem_replicate]
    rfl
  · rw [List.getElem?_eq_none (by simp [madeCells]; omega), List.getElem?_eq_none (by rw [flat_len g4_len]; simp; omega)]
def nq (p : Nat × Nd) : V4c := (.int .i64 p.2.1, .string p.2.2.1, .int .i64 p.2.2.2.1, .slice (some ⟨p.1, 0, none⟩) p.2.2.2.2.length p.2.2.2.2.length)
def zq : V4c := (.int .i64 0, .string ⟨#[]⟩, .int .i64 0, .slice none 0 0)
theorem nq_flat (ps : List (Nat × Nd)) : (ps.map nq).flatMap g4 = ps.flatMap nh := by rw [List.flatMap_map]; rfl
def halfN (n : Nat) (ps : List (Nat × Nd)) : List V4c := ps.map nq ++ List.replicate (n - ps.length) zq
theorem halfN_zero (n : Nat) : halfN n [] = List.replicate n zq := by simp [halfN]
theorem halfN_len (n : Nat) (ps : List (Nat × Nd)) (h : ps.length ≤ n) : (halfN n ps).length = n := by simp [halfN]; omega
theorem halfN_all (n : Nat) (ps : List (Nat × Nd)) (h : ps.length = n) : halfN n ps = ps.map nq := by simp [halfN, h]
theorem halfN_step (n : Nat) (ps : List (Nat × Nd)) (p : Nat × Nd) (h : ps.length < n) : (halfN n ps).set ps.length (nq p) = halfN n (ps ++ [p]) := by
  unfold halfN
  rw [List.set_append_right _ _ (by simp)]
  have e : n - ps.length = (n - (ps ++ [p]).length) + 1 := by simp; omega
  rw [e, List.replicate_succ]
  simp


theorem asg_set (xs : List As) : ∀ (k : Nat) (v : As), ((xs.flatMap asg).set (k * 2) (.string v.1)).set (k * 2 + 1) (.int .i64 v.2) = (xs.set k v).flatMap asg := by
  induction xs with
  | nil => intro k v; simp
  | cons x xs ih =>
    intro k v
    match k with
    | 0 => simp [asg]
    | k + 1 =>
      have := ih k v
      simp only [List.flatMap_cons, List.set_cons_succ]
      rw [← this]
      have e0 : (k + 1) * 2 = k * 2 + 1 + 1 := by omega
      rw [e0]
      simp [asg]
def zA : As := (⟨#[]⟩, 0)
theorem madeP2 (a b : Value) (n : Nat) : ∀ (k j : Nat), k < n → j < 2 → ((madeCells #[a, b] (n * 2)).toList)[k * 2 + j]? = ([a, b] : List Value)[j]? := by
  intro k j hk hj
  have hlt : k * 2 + j < n * 2 := by omega
  have e : (k * 2 + j) % 2 = j := by omega
  have : j = 0 ∨ j = 1 := by omega
  rcases this with rfl | rfl <;>
    (simp only [madeCells, Array.toList_map, Array.toList_range, List.getElem?_map]
     rw [List.getElem?_range (by omega)]
     simp only [Option.map_some]
     simp [e])
theorem made_asg (n : Nat) : (madeCells #[.string ⟨#[]⟩, .int .i64 0] (n * 2)).toList = (List.replicate n zA).flatMap asg := by
  apply List.ext_getElem?
  intro i
  by_cases h : i < n * 2
  · obtain ⟨k, j, rfl, hj⟩ : ∃ k j, i = k * 2 + j ∧ j < 2 := ⟨i / 2, i % 2, by omega, by omega⟩
    have hk : k < n := by omega
    rw [madeP2 _ _ n k j hk hj, flat_get asg_len _ k j (by simpa using hk) hj, List.getElem_replicate]
    rfl
  · rw [List.getElem?_eq_none (by simp [madeCells]; omega), List.getElem?_eq_none (by rw [flat_len asg_len]; simp; omega)]
def halfAs (xs : List As) (k : Nat) : List As := xs.take k ++ List.replicate (xs.length - k) zA
theorem halfAs_zero (xs : List As) : halfAs xs 0 = List.replicate xs.length zA := by simp [halfAs]
theorem halfAs_all (xs : List As) : halfAs xs xs.length = xs := by simp [halfAs]
theorem halfAs_len (xs : List As) (k : Nat) (h : k ≤ xs.length) : (halfAs xs k).length = xs.length := by simp [halfAs]; omega
theorem halfAs_step (xs : List As) (k : Nat) (h : k < xs.length) : (halfAs xs k).set k xs[k] = halfAs xs (k + 1) := by
  unfold halfAs
  rw [List.take_succ_eq_append_getElem h, List.set_append_right _ _ (by simp; omega)]
  have e : xs.length - k = (xs.length - (k + 1)) + 1 := by omega
  rw [e, List.replicate_succ]
  simp only [List.length_take, Nat.min_eq_left (Nat.le_of_lt h), Nat.sub_self, List.set_cons_zero, List.append_assoc, List.cons_append, List.nil_append]
theorem own_asg {w : World} {base : Nat} {e : TypeId} {g n cap : Nat} {xs : List As} (h : w.ownsRow base e 2 (.slice (some ⟨g, 0, none⟩) n cap) n (xs.flatMap asg)) (hn : xs.length = n) {k : Nat} (hk : k < n) :
    ∃ (x : ByteArray) (y : Int), w.cell? ⟨g, k * 2, none⟩ = some (.string x) ∧ w.cell? ⟨g, k * 2 + 1, none⟩ = some (.int .i64 y) := by
  have hk' : k < xs.length := by omega
  have h0 := h.cellAt (k * 2) (by omega)
  have h1 := h.cellAt (k * 2 + 1) (by omega)
  rw [← Nat.add_zero (k * 2), flat_get asg_len xs k 0 hk' (by omega)] at h0
  rw [flat_get asg_len xs k 1 hk' (by omega)] at h1
  exact ⟨_, _, h0, h1⟩
/-- a program that a call made: the nodes in block g, the assignments in block g', all of it the call's own -/
def ProgOwn (w : World) (lo g g' : Nat) (ps : List (Nat × Nd)) (ys : List As) : Prop :=
  NdGrid w lo g ps ∧ w.ownsRow lo 43 2 (.slice (some ⟨g', 0, none⟩) ys.length ys.length) ys.length (ys.flatMap asg) ∧ g < g' ∧ ∀ p ∈ ps, p.1 < g'
theorem ProgOwn.read {w : World} {lo g g' : Nat} {ps : List (Nat × Nd)} {ys : List As} (h : ProgOwn w lo g g' ps ys) (hm : ∀ p ∈ ps, p.2.2.2.2.length ≤ maxLen) : ProgIn w w.heap.size (some ⟨g, 0, none⟩) (some ⟨g', 0, none⟩) (ps.map Prod.snd) ys :=
  ⟨h.1.row hm, RowC.of_own asg_len h.2.1 rfl⟩
theorem NdGrid.later {w w' : World} {lo g : Nat} {ps : List (Nat × Nd)} (h : NdGrid w lo g ps) (hb : Below w.heap.size w w') : NdGrid w' lo g ps :=
  ⟨h.1, own_keep' h.2.1 hb, h.2.2.1.later hb, h.2.2.2⟩
theorem own_far1 {w : World} {base : Nat} {e : TypeId} {size n : Nat} {v : Value} {xs : List Value} (h : w.ownsRow base e size v n xs) {b i : Nat} (hb : v.ownBlock ≠ some b) (u : Value) : (w.setCell ⟨b, i, none⟩ u).ownsRow base e size v n xs :=
  h.kept (gb_set (gb_refl w (some b)) u) (.inr hb)
theorem NdGrid.far {w : World} {lo g b i : Nat} {ps : List (Nat × Nd)} (h : NdGrid w lo g ps) (hb : b < g) (v : Value) : NdGrid (w.setCell ⟨b, i, none⟩ v) lo g ps :=
  ⟨h.1, own_far1 h.2.1 (by simp [Value.ownBlock]; omega) v, h.2.2.1.far (fun p hp => by
    obtain ⟨q, hq, rfl⟩ := List.mem_map.1 hp
    have := h.2.2.2 q hq
    show q.1 ≠ b
    omega) v, h.2.2.2⟩
theorem NdGrid.base {w : World} {lo lo' g : Nat} {ps : List (Nat × Nd)} (h : NdGrid w lo g ps) (hl : lo' ≤ lo) : NdGrid w lo' g ps := ⟨Nat.le_trans hl h.1, own_base h.2.1 hl, h.2.2⟩
theorem ProgOwn.far {w : World} {lo g g' b i : Nat} {ps : List (Nat × Nd)} {ys : List As} (h : ProgOwn w lo g g' ps ys) (hb : b < g) (v : Value) : ProgOwn (w.setCell ⟨b, i, none⟩ v) lo g g' ps ys :=
  ⟨h.1.far hb v, own_far1 h.2.1 (by have := h.2.2.1; simp [Value.ownBlock]; omega) v, h.2.2⟩
theorem ProgOwn.later {w w' : World} {lo g g' : Nat} {ps : List (Nat × Nd)} {ys : List As} (h : ProgOwn w lo g g' ps ys) (hb : Below w.heap.size w w') : ProgOwn w' lo g g' ps ys :=
  ⟨h.1.later hb, own_keep' h.2.1 hb, h.2.2⟩



end Go.Proofs.YtkbdnjhgcoihhaaGreatDoor
