/- Marks on a program that a law copied; Roots. -/
import Derived.Test.YtkbdnjhgcoihhaaGreatDoorProg
import Derived.Test.YtkbdnjhgcoihhaaGreatDoorInts
import Derived.Test.YtkbdnjhgcoihhaaGreatDoorVbox
import Derived.Test.YtkbdnjhgcoihhaaGreatDoorHeld
import Derived.Test.YtkbdnjhgcoihhaaGreatDoorMem
import Derived.Test.YtkbdnjhgcoihhaaGreatDoorFlat
import Derived.Test.YtkbdnjhgcoihhaaGreatDoorRowC
import Derived.Test.YtkbdnjhgcoihhaaGreatDoorKS
import Derived.Test.YtkbdnjhgcoihhaaGreatDoorStrS
import Derived.Test.YtkbdnjhgcoihhaaGreatDoorIntS
import Derived.Test.YtkbdnjhgcoihhaaGreatDoorSS
import Derived.Test.YtkbdnjhgcoihhaaGreatDoorPg
import Derived.Test.YtkbdnjhgcoihhaaGreatDoorPh
import Derived.Test.YtkbdnjhgcoihhaaGreatDoorPi
import Derived.Test.YtkbdnjhgcoihhaaGreatDoorPj
import Derived.Test.YtkbdnjhgcoihhaaGreatDoorPk
import Derived.Test.YtkbdnjhgcoihhaaGreatDoorPl
import Derived.WalkKit
import Derived.WalkSpells
import Derived.WalkLawsBesides
import Derived.Lib.Hide
import Derived.Deep.RegionHeld3
import Derived.Deep.QuietTactic
import Derived.BigQuiet
import Derived.Handy
import Derived.Deep.DeepCutAuto
namespace Go.Proofs.YtkbdnjhgcoihhaaGreatDoor
open Go.RowKit

theorem own_turn' {S : Nat → Prop} {w w' : World} {base m n : Nat} {e : TypeId} {v : Value} {xs : List Value} (h : w.ownsRow base e m v n xs) (ht : Turn S w w') (hS : ∀ k, S k → k < base) : w'.ownsRow base e m v n xs :=
  own_keepN h (fun b hb => ht.block (h.lt b hb).2 (fun c => by have := hS b c; have := (h.lt b hb).1; omega))
theorem Held.under' {w W W' : World} {bs : List (Nat × List Value)} {B : Nat} (h : Held w W bs) (hb : Below B W W') (hB : w.heap.size ≤ B) (hn : ∀ p ∈ bs, p.1 < B) : Held w W' bs :=
  ⟨h.1.trans (hb.mono hB), fun i k vs e => (h.2 i k vs e).keep fun _ => hb.block k (hn (k, vs) (List.mem_of_getElem? e))⟩
theorem Held.turn' {S : Nat → Prop} {w W W' : World} {bs : List (Nat × List Value)} (h : Held w W bs) (ht : Turn S W W') (hS : ∀ k, S k → w.heap.size ≤ k) (hn : ∀ p ∈ bs, ¬ S p.1) : Held w W' bs :=
  ⟨h.1.trans (ht.below h.1.size hS), fun i k vs e => (h.2 i k vs e).turn ht (hn (k, vs) (List.mem_of_getElem? e))⟩
def QM (w : World) (a : Option Addr × Nat) (xs : List Int) : Prop := ∃ g, a.1 = some ⟨g, 0, none⟩ ∧ Mbox w g (xs.map I64) ∧ g < w.heap.size
def pn (p : Nat × Nd) : PN := ((some ⟨p.1, 0, none⟩, p.2.2.2.2.length), p.2)
theorem pn_cells (ps : List (Nat × Nd)) : (ps.map pn).flatMap ng = ps.flatMap nh := by
  rw [List.flatMap_map]
  rfl
theorem ProgOwn.gen {w : World} {lo g g' : Nat} {ps : List (Nat × Nd)} {ys : List As} (h : ProgOwn w lo g g' ps ys) : ProgG QM w lo (some ⟨g, 0, none⟩) ps.length (some ⟨g', 0, none⟩) ys.length (ps.map pn) ys := by
  obtain ⟨⟨h1, h2, h3, h4⟩, h5, h6, h7⟩ := h
  refine ⟨⟨by rw [pn_cells, List.length_map]; exact h2, fun i hi => ?_, fun i j hi hj hne => ?_⟩, h5, ?_, fun i hi => ?_⟩
  · have hi' : i < ps.length := by simpa using hi
    rw [List.getElem_map]
    have hm := List.getElem_mem hi'
    have := h3.2 (argL ps[i]) (List.mem_map.2 ⟨_, hm, rfl⟩)
    refine ⟨⟨(ps[i]).1, rfl, this.1, this.2⟩, ?_⟩
    intro k hk he
    have e1 : (ps[i]).1 = k := by injection hk
    have e2 : g = k := by injection he
    have := h4 _ hm
    omega
  · have hi' : i < ps.length := by simpa using hi
    have hj' : j < ps.length := by simpa using hj
    rw [List.getElem_map, List.getElem_map]
    intro k hk he
    have e1 : (ps[i]).1 = k := by injection hk
    have e2 : (ps[j]).1 = k := by injection he
    have hn := h3.1
    rw [List.map_map] at hn
    have hne2 : ∀ a b (ha : a < ps.length) (hb : b < ps.length), a < b → (ps[a]).1 ≠ (ps[b]).1 := fun a b ha hb hab => by
      have := List.pairwise_iff_getElem.1 hn a b (by simpa using ha) (by simpa using hb) hab
      simpa [argL] using this
    rcases Nat.lt_or_gt_of_ne hne with h | h
    · exact hne2 i j hi' hj' h (by rw [e1, e2])
    · exact hne2 j i hj' hi' h (by rw [e1, e2])
  · intro k hk he
    have e1 : g = k := by injection hk
    have e2 : g' = k := by injection he
    omega
  · have hi' : i < ps.length := by simpa using hi
    rw [List.getElem_map]
    intro k hk he
    have e1 : (ps[i]).1 = k := by injection hk
    have e2 : g' = k := by injection he
    have := h7 _ (List.getElem_mem hi')
    omega
theorem offN_sz (ps : List (Nat × Nd)) : offN (ps.map pn) (ps.map pn).length ≤ 3 * ps.length + szN (ps.map Prod.snd) := by
  unfold offN
  rw [List.take_length]
  induction ps with
  | nil => simp [szN]
  | cons p ps ih =>
    simp only [List.map_cons, List.sum_cons, List.length_cons, szN]
    have e : (pn p).2.2.2.2.length = p.2.2.2.2.length := rfl
    rw [e]
    omega
def rtsL (ys : List As) : List Int := ys.map (·.2)
theorem rts_step (ys : List As) (k : Nat) (h : k < ys.length) : rtsL (ys.take (k + 1)) = rtsL (ys.take k) ++ [(ys[k]).2] := by
  unfold rtsL
  rw [List.take_succ_eq_append_getElem h, List.map_append]
  rfl
theorem rts_len (ys : List As) : (rtsL ys).length = ys.length := by simp [rtsL]
def IntsOutP (xs : List Int) (w : World) (e : Ending) (w' : World) : Prop :=
  ∃ (A : Option Addr) (c : Nat), e = .returned (.slice A xs.length c) ∧ w'.ownsRow w.heap.size 3 1 (.slice A xs.length c) xs.length (xs.map I64) ∧ Below w.heap.size w w'

theorem qm_mark : MarkQ QM where
  keep := fun w w' a xs h hs hb => by
    obtain ⟨g, e, hM, hl⟩ := h
    exact ⟨g, e, hM.keep (fun _ => hb g (by rw [e]; rfl)), Nat.lt_of_lt_of_le hl hs⟩
  inb := fun w a xs h b hb => by
    obtain ⟨g, e, hM, hl⟩ := h
    rw [e] at hb
    have e1 : g = b := by injection hb
    omega
  mark := fun w a xs k h hk => by
    obtain ⟨a, c⟩ := a
    obtain ⟨g, e, hM, hl⟩ := h
    have e : a = some ⟨g, 0, none⟩ := e
    subst e
    refine (markIntMP g c k xs w hM hk).mono ?_
    rintro e w' ⟨rfl, hM2, hg⟩
    exact ⟨rfl, ⟨g, rfl, hM2, Nat.lt_of_lt_of_le hl hg.size⟩, (Turn.of_grown hg).mono (fun b e => by rw [e]; rfl)⟩

theorem markProg_own (lo hi g g' k : Nat) (ps : List (Nat × Nd)) (ys : List As) (w : World) (h : ProgOwn w lo g g' ps ys) (hU : g' < hi ∧ ∀ p ∈ ps, p.1 < hi) (hk1 : 1 ≤ k) (hk2 : k + 3 * ps.length + szN (ps.map Prod.snd) + 2 * ys.length ≤ 4611686018427387904) (hl : ps.length ≤ 1099511627776) :
    Calls Tryz.prog 7 #[pgv (some ⟨g, 0, none⟩) (some ⟨g', 0, none⟩) ps.length ps.length ys.length ys.length, .int .i64 k] w fun e w' => ∃ m : Nat, k ≤ m ∧ m ≤ 4611686018427387904 ∧ e = .returned (.int .i64 (m : Int)) ∧ Turn (fun b => lo ≤ b ∧ b < hi) w w' := by
  have hz := offN_sz ps
  have hm := markProg_any qm_mark (some ⟨g, 0, none⟩) (some ⟨g', 0, none⟩) ps.length ys.length lo k (ps.map pn) ys w h.gen hk1 (by omega) (by simpa using hl)
  rw [List.length_map] at hm hz
  refine hm.mono ?_
  rintro e w' ⟨rfl, _, ht⟩
  refine ⟨_, by omega, by omega, rfl, ht.mono fun b hb => ?_⟩
  have h1 := h.1.1
  rcases hb with (hb | ⟨p, hp, hb⟩) | hb
  · have e1 : g = b := by injection hb
    have := h.2.2.1
    omega
  · obtain ⟨q, hq, rfl⟩ := List.mem_map.1 hp
    have e1 : q.1 = b := by injection hb
    have := hU.2 q hq
    have := h.1.2.2.2 q hq
    omega
  · have e1 : g' = b := by injection hb
    have := h.2.2.1
    omega


end Go.Proofs.YtkbdnjhgcoihhaaGreatDoor
