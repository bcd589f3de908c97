/- The model's parser: its state, what its parts leave. -/
import Derived.Test.YtkbdnjhgcoihhaaGreatDoorProg
import Derived.Test.YtkbdnjhgcoihhaaGreatDoorInts
import Derived.Test.YtkbdnjhgcoihhaaGreatDoorVbox
import Derived.Test.YtkbdnjhgcoihhaaGreatDoorHeld
import Derived.Test.YtkbdnjhgcoihhaaGreatDoorMem
import Derived.Test.YtkbdnjhgcoihhaaGreatDoorFlat
import Derived.Test.YtkbdnjhgcoihhaaGreatDoorRowC
import Derived.Test.YtkbdnjhgcoihhaaGreatDoorKS
import Derived.Test.YtkbdnjhgcoihhaaGreatDoorStrS
import Derived.Test.YtkbdnjhgcoihhaaGreatDoorIntS
import Derived.Test.YtkbdnjhgcoihhaaGreatDoorSS
import Derived.Test.YtkbdnjhgcoihhaaGreatDoorTok
import Derived.Test.YtkbdnjhgcoihhaaGreatDoorPg
import Derived.Test.YtkbdnjhgcoihhaaGreatDoorPh
import Derived.Test.YtkbdnjhgcoihhaaGreatDoorPi
import Derived.Test.YtkbdnjhgcoihhaaGreatDoorPk
import Derived.Test.YtkbdnjhgcoihhaaGreatDoorPl
import Derived.Test.YtkbdnjhgcoihhaaGreatDoorPp
import Derived.Test.YtkbdnjhgcoihhaaGreatDoorPq
import Derived.Test.YtkbdnjhgcoihhaaGreatDoorPr
import Derived.WalkKit
import Derived.WalkSpells
import Derived.WalkLawsBesides
import Derived.Lib.Hide
import Derived.Deep.RegionHeld3
import Derived.Deep.QuietTactic
import Derived.BigQuiet
import Derived.Handy
import Derived.Deep.DeepCutAuto
import Derived.Deep.AppendLies
import Derived.Deep.RegionLaw
namespace Go.Proofs.YtkbdnjhgcoihhaaGreatDoor
open Go.RowKit

/-- arguments that a call made: a row of its own, or none -/
def QO (base : Nat) (w : World) (a : Option Addr × Nat) (xs : List Int) : Prop := w.ownsRow base 3 1 (.slice a.1 xs.length a.2) xs.length (xs.map I64)
theorem qo_keep {base : Nat} {w w' : World} {a : Option Addr × Nat} {xs : List Int} (h : QO base w a xs) (hk : ∀ b, blk a.1 = some b → w'.heap[b]? = w.heap[b]?) : QO base w' a xs := own_keepN h (fun b hb => hk b (blk_of hb))
theorem qo_lt {base : Nat} {w : World} {a : Option Addr × Nat} {xs : List Int} (h : QO base w a xs) {b : Nat} (hb : blk a.1 = some b) : b < w.heap.size := (h.lt b (of_blk hb)).2
/-- the parser under way: its state in block S, its tokens below base, its nodes its own -/
structure PSt (w : World) (base S : Nat) (A : Option Addr) (c a : Nat) (ts : List Tk) (NA : Option Addr) (nc : Nat) (ps : List PN) (x3 : Value) : Prop where
  box : Mbox w S [.slice A ts.length c, .int .i64 a, .slice NA ps.length nc, x3, .int .i64 (-1)]
  low : base ≤ S
  lt : S < w.heap.size
  toks : RowC 4 tkg w base A ts
  nodes : NdG (QO base) w base NA nc ps
  apN : blk NA ≠ some S
  apA : ∀ i (h : i < ps.length), blk (ps[i]).1.1 ≠ some S
/-- only the state, and the nodes' row as it was, may have turned -/
abbrev TS (S : Nat) (NA : Option Addr) (k : Nat) : Prop := k = S ∨ blk NA = some k
def NewN (w : World) (NA NA' : Option Addr) : Prop := blk NA' = blk NA ∨ ∃ k, blk NA' = some k ∧ w.heap.size ≤ k
theorem turn_chain {S : Nat} {NA NA' : Option Addr} {w w1 w2 : World} (h1 : Turn (TS S NA) w w1) (hn : NewN w NA NA') (h2 : Turn (TS S NA') w1 w2) : Turn (TS S NA) w w2 :=
  ⟨h2.1.trans h1.1, h2.2.1.trans h1.2.1, h2.2.2.1.trans h1.2.2.1, Nat.le_trans h1.size h2.size, fun k hk hnk => (h2.block (Nat.lt_of_lt_of_le hk h1.size) (fun c => by
    rcases c with c | c
    · exact hnk (.inl c)
    · rcases hn with e | ⟨j, e, hj⟩
      · exact hnk (.inr (by rw [← e]; exact c))
      · rw [e] at c
        injection c with c
        omega)).trans (h1.block hk hnk)⟩
theorem newN_trans {w w1 : World} {NA NA' NA2 : Option Addr} (hs : w.heap.size ≤ w1.heap.size) (h : NewN w NA NA') (h2 : NewN w1 NA' NA2) : NewN w NA NA2 := by
  rcases h2 with e | ⟨j, e, hj⟩
  · rcases h with e2 | ⟨i, e2, hi⟩
    · exact .inl (e.trans e2)
    · exact .inr ⟨i, e.trans e2, hi⟩
  · exact .inr ⟨j, e, Nat.le_trans hs hj⟩
theorem newN_refl (w : World) (NA : Option Addr) : NewN w NA NA := .inl rfl
/-- the arguments of these nodes lie where those of the nodes before lay, or in new blocks -/
def FrA (w : World) (ps ps' : List PN) : Prop := ∀ p ∈ ps', ∀ b, blk p.1.1 = some b → w.heap.size ≤ b ∨ ∃ p0 ∈ ps, blk p0.1.1 = some b
theorem FrA.refl (w : World) (ps : List PN) : FrA w ps ps := fun p hp _ hb => .inr ⟨p, hp, hb⟩
theorem FrA.trans {w w1 : World} {ps ps1 ps2 : List PN} (h : FrA w ps ps1) (hs : w.heap.size ≤ w1.heap.size) (h2 : FrA w1 ps1 ps2) : FrA w ps ps2 := fun p hp b hb => by
  rcases h2 p hp b hb with e | ⟨p0, hp0, hb0⟩
  · exact .inl (Nat.le_trans hs e)
  · exact h p0 hp0 b hb0
theorem FrA.add {w : World} {ps ps1 : List PN} {q : PN} (h : FrA w ps ps1) (hq : ∀ b, blk q.1.1 = some b → w.heap.size ≤ b) : FrA w ps (ps1 ++ [q]) := fun p hp b hb => by
  rcases List.mem_append.1 hp with hp | hp
  · exact h p hp b hb
  · rw [List.mem_singleton] at hp
    rw [hp] at hb
    exact .inl (hq b hb)
section
variable {w w' : World} {base S : Nat} {A NA : Option Addr} {c a nc : Nat} {ts : List Tk} {ps : List PN} {x3 : Value}
/-- behind a call that leaves all that lay -/
theorem PSt.later (h : PSt w base S A c a ts NA nc ps x3) (hb : Below w.heap.size w w') : PSt w' base S A c a ts NA nc ps x3 where
  box := h.box.later hb
  low := h.low
  lt := Nat.lt_of_lt_of_le h.lt hb.size
  toks := h.toks.below (hb.mono (Nat.le_of_lt (Nat.lt_of_le_of_lt h.low h.lt)))
  nodes := ⟨own_keep' h.nodes.1 hb, fun i hi => ⟨qo_keep (h.nodes.2.1 i hi).1 (fun b hbk => hb.block b (qo_lt (h.nodes.2.1 i hi).1 hbk)), (h.nodes.2.1 i hi).2⟩, h.nodes.2.2⟩
  apN := h.apN
  apA := h.apA
/-- where only the state's block has turned -/
theorem PSt.turned {a' : Nat} (h : PSt w base S A c a ts NA nc ps x3) (ht : Turn (fun k => k = S) w w') (hb : Mbox w' S [.slice A ts.length c, .int .i64 a', .slice NA ps.length nc, x3, .int .i64 (-1)]) : PSt w' base S A c a' ts NA nc ps x3 where
  box := hb
  low := h.low
  lt := Nat.lt_of_lt_of_le h.lt ht.size
  toks := h.toks.below (ht.below (Nat.le_of_lt (Nat.lt_of_le_of_lt h.low h.lt)) (fun k e => by rw [e]; exact h.low))
  nodes := ⟨own_keepN h.nodes.1 (fun b hbk => ht.block (h.nodes.1.lt b hbk).2 (fun e => h.apN (by rw [← e]; exact blk_of hbk))), fun i hi => ⟨qo_keep (h.nodes.2.1 i hi).1 (fun b hbk => ht.block (qo_lt (h.nodes.2.1 i hi).1 hbk) (fun e => h.apA i hi (by rw [← e]; exact hbk))), (h.nodes.2.1 i hi).2⟩, h.nodes.2.2⟩
  apN := h.apN
  apA := h.apA
/-- a store into the state: the next token -/
theorem PSt.next {a' : Nat} (h : PSt w base S A c a ts NA nc ps x3) : PSt (w.setCell ⟨S, 1, none⟩ (.int .i64 a')) base S A c a' ts NA nc ps x3 :=
  h.turned ((Turn.refl (fun k => k = S) w).setCell (g := S) (i := 1) rfl _) (h.box.put 1 _)
end
/-- what a part of the parser leaves -/
def PPost (base S : Nat) (A : Option Addr) (c : Nat) (ts : List Tk) (NA : Option Addr) (ps : List PN) (x3 : Value) (R : PR) (w : World) (e : Ending) (w' : World) : Prop :=
  match R with
  | .bad o => (∃ v : Int, e = .returned (.int .i64 v)) ∧ 0 ≤ o ∧ Below base w w' ∧ S < w'.heap.size ∧ ∃ x1 x2, Mbox w' S [.slice A ts.length c, x1, x2, x3, .int .i64 o]
  | .ok r a' ns' => e = .returned (.int .i64 r) ∧ ∃ (NA' : Option Addr) (nc' : Nat) (ps' : List PN), ps'.map Prod.snd = ns' ∧ PSt w' base S A c a' ts NA' nc' ps' x3 ∧ Turn (TS S NA) w w' ∧ NewN w NA NA' ∧ ps'.length ≤ 60 ∧ FrA w ps ps'

theorem emit_any {base S c a nc : Nat} {A NA : Option Addr} {ts : List Tk} {ps : List PN} {x3 : Value} (q : PN) (w : World) (h : PSt w base S A c (a + 1) ts NA nc ps x3) (ha : a < ts.length) (hl : ts.length ≤ 1099511627776) (hoff : ∀ a, 0 ≤ offA ts a) (hn : ps.length ≤ 60)
    (hq : QO base w q.1 q.2.2.2.2) (hqN : Apart q.1.1 NA) (hqS : blk q.1.1 ≠ some S) (hqA : ∀ i (h : i < ps.length), Apart (ps[i]).1.1 q.1.1) :
    Calls Tryz.prog 42 #[.pointer (some ⟨S, 0, none⟩), .agg #[.int .i64 q.2.1, .string q.2.2.1, .int .i64 q.2.2.2.1, .slice q.1.1 q.2.2.2.2.length q.1.2]] w (PPost base S A c ts NA (ps ++ [q]) x3 (emitP ts (a + 1) (ps.map Prod.snd) q.2) w) := by
  unfold emitP
  rw [List.length_map]
  by_cases h60 : ps.length = 60
  · rw [if_pos h60]
    refine (sEmit_bad S c a ps.length nc A NA ts x3 q w h.box h.lt (h.toks.more h.low) ha hl h60).mono ?_
    rintro e w' ⟨rfl, ht, hm⟩
    exact ⟨⟨0, rfl⟩, hoff _, ht.below (Nat.le_of_lt (Nat.lt_of_le_of_lt h.low h.lt)) (fun k e => by rw [e]; exact h.low), Nat.lt_of_lt_of_le h.lt ht.size, _, _, hm⟩
  · rw [if_neg h60]
    refine (sEmit_ok S base c (a + 1) nc A NA ts ps x3 q w h.box ⟨Nat.le_of_lt (Nat.lt_of_le_of_lt h.low h.lt), h.lt⟩ h.nodes.1 h.apN hn h60).mono ?_
    rintro e w' ⟨rfl, NA', nc', ht, hm, ho, hnew⟩
    have hkq : ∀ (a' : Option Addr × Nat) (xs : List Int), QO base w a' xs → Apart a'.1 NA → blk a'.1 ≠ some S → QO base w' a' xs := fun a' xs hqo h1 h2 => qo_keep hqo (fun b hb => ht.block (qo_lt hqo hb) (fun c => by
      rcases c with c | c
      · exact h2 (by rw [← c]; exact hb)
      · exact h1 b hb c))
    have hkn : ∀ (a' : Option Addr × Nat) (xs : List Int), QO base w a' xs → Apart a'.1 NA → Apart a'.1 NA' := fun a' xs hqo h1 k hk he => by
      rcases hnew with e | ⟨j, e, hj⟩
      · exact h1 k hk (by rw [← e]; exact he)
      · rw [e] at he
        injection he with he
        have := qo_lt hqo hk
        omega
    refine ⟨rfl, NA', nc', ps ++ [q], by simp, ⟨by simpa using hm, h.low, Nat.lt_of_lt_of_le h.lt ht.size, h.toks.below (ht.below (Nat.le_of_lt (Nat.lt_of_le_of_lt h.low h.lt)) (fun k e => ?_)), ⟨by simpa using ho, fun i hi => ?_, fun i j hi hj hne => ?_⟩, ?_, fun i hi => ?_⟩, ht, hnew, by simp; omega, FrA.refl _ _⟩
    · rcases e with e | e
      · rw [e]; exact h.low
      · exact (h.nodes.1.lt k (of_blk e)).1
    · by_cases hi2 : i < ps.length
      · rw [List.getElem_append_left hi2]
        have := h.nodes.2.1 i hi2
        exact ⟨hkq _ _ this.1 this.2 (h.apA i hi2), hkn _ _ this.1 this.2⟩
      · have e : i = ps.length := by simp at hi; omega
        subst e
        rw [List.getElem_append_right (Nat.le_refl _)]
        simp only [Nat.sub_self, List.getElem_cons_zero]
        exact ⟨hkq _ _ hq hqN hqS, hkn _ _ hq hqN⟩
    · by_cases hi2 : i < ps.length
      · by_cases hj2 : j < ps.length
        · rw [List.getElem_append_left hi2, List.getElem_append_left hj2]
          exact h.nodes.2.2 i j hi2 hj2 hne
        · have e : j = ps.length := by simp at hj; omega
          subst e
          rw [List.getElem_append_left hi2, List.getElem_append_right (Nat.le_refl _)]
          simp only [Nat.sub_self, List.getElem_cons_zero]
          exact hqA i hi2
      · have e : i = ps.length := by simp at hi; omega
        subst e
        have hj2 : j < ps.length := by simp at hj; omega
        rw [List.getElem_append_left hj2, List.getElem_append_right (Nat.le_refl _)]
        simp only [Nat.sub_self, List.getElem_cons_zero]
        exact (hqA j hj2).symm
    · intro e2
      rcases hnew with e | ⟨j, e, hj⟩
      · exact h.apN (by rw [← e]; exact e2)
      · rw [e] at e2
        injection e2 with e2
        have := h.lt
        omega
    · by_cases hi2 : i < ps.length
      · rw [List.getElem_append_left hi2]
        exact h.apA i hi2
      · have e : i = ps.length := by simp at hi; omega
        subst e
        rw [List.getElem_append_right (Nat.le_refl _)]
        simp only [Nat.sub_self, List.getElem_cons_zero]
        exact hqS
end Go.Proofs.YtkbdnjhgcoihhaaGreatDoor
