/- The program's parser: its state, what its parts leave. -/
import Derived.Test.YtkbdnjhgcoihhaaGreatDoorProg
import Derived.Test.YtkbdnjhgcoihhaaGreatDoorInts
import Derived.Test.YtkbdnjhgcoihhaaGreatDoorVbox
import Derived.Test.YtkbdnjhgcoihhaaGreatDoorHeld
import Derived.Test.YtkbdnjhgcoihhaaGreatDoorMem
import Derived.Test.YtkbdnjhgcoihhaaGreatDoorFlat
import Derived.Test.YtkbdnjhgcoihhaaGreatDoorRowC
import Derived.Test.YtkbdnjhgcoihhaaGreatDoorKS
import Derived.Test.YtkbdnjhgcoihhaaGreatDoorStrS
import Derived.Test.YtkbdnjhgcoihhaaGreatDoorIntS
import Derived.Test.YtkbdnjhgcoihhaaGreatDoorSS
import Derived.Test.YtkbdnjhgcoihhaaGreatDoorTok
import Derived.Test.YtkbdnjhgcoihhaaGreatDoorPg
import Derived.Test.YtkbdnjhgcoihhaaGreatDoorPh
import Derived.Test.YtkbdnjhgcoihhaaGreatDoorPi
import Derived.Test.YtkbdnjhgcoihhaaGreatDoorPk
import Derived.Test.YtkbdnjhgcoihhaaGreatDoorPl
import Derived.Test.YtkbdnjhgcoihhaaGreatDoorPp
import Derived.Test.YtkbdnjhgcoihhaaGreatDoorPq
import Derived.Test.YtkbdnjhgcoihhaaGreatDoorPr
import Derived.Test.YtkbdnjhgcoihhaaGreatDoorPs
import Derived.Test.YtkbdnjhgcoihhaaGreatDoorPt
import Derived.Test.YtkbdnjhgcoihhaaGreatDoorPu
import Derived.Test.YtkbdnjhgcoihhaaGreatDoorPv
import Derived.Test.YtkbdnjhgcoihhaaGreatDoorPw
import Derived.Test.YtkbdnjhgcoihhaaGreatDoorTp
import Derived.Test.YtkbdnjhgcoihhaaGreatDoorShelf
import Derived.Test.YtkbdnjhgcoihhaaGreatDoorRa
import Derived.Test.YtkbdnjhgcoihhaaGreatDoorRb
import Derived.Test.YtkbdnjhgcoihhaaGreatDoorRc
import Derived.WalkKit
import Derived.WalkSpells
import Derived.WalkLawsBesides
import Derived.Lib.Hide
import Derived.Deep.RegionHeld3
import Derived.Deep.QuietTactic
import Derived.BigQuiet
import Derived.Handy
import Derived.Deep.DeepCutAuto
namespace Go.Proofs.YtkbdnjhgcoihhaaGreatDoor
open Go.RowKit

/-- the parser under way: its state in block S, its tokens below base, its nodes its own -/
structure PSq (w : World) (base S : Nat) (A : Option Addr) (c a : Nat) (ts : List Tk) (NA : Option Addr) (nc : Nat) (ps : List PN) (x3 : Value) : Prop where
  box : Mbox w S [.slice A ts.length c, .int .i64 a, .slice NA ps.length nc, x3]
  low : base ≤ S
  lt : S < w.heap.size
  toks : RowC 4 tkg w base A ts
  nodes : NdG (QO base) w base NA nc ps
  apN : blk NA ≠ some S
  apA : ∀ i (h : i < ps.length), blk (ps[i]).1.1 ≠ some S
section
variable {w w' : World} {base S : Nat} {A NA : Option Addr} {c a nc : Nat} {ts : List Tk} {ps : List PN} {x3 : Value}
/-- behind a call that leaves all that lay -/
theorem PSq.later (h : PSq w base S A c a ts NA nc ps x3) (hb : Below w.heap.size w w') : PSq w' base S A c a ts NA nc ps x3 where
  box := h.box.later hb
  low := h.low
  lt := Nat.lt_of_lt_of_le h.lt hb.size
  toks := h.toks.below (hb.mono (Nat.le_of_lt (Nat.lt_of_le_of_lt h.low h.lt)))
  nodes := ⟨own_keep' h.nodes.1 hb, fun i hi => ⟨qo_keep (h.nodes.2.1 i hi).1 (fun b hbk => hb.block b (qo_lt (h.nodes.2.1 i hi).1 hbk)), (h.nodes.2.1 i hi).2⟩, h.nodes.2.2⟩
  apN := h.apN
  apA := h.apA
/-- where only the state's block has turned -/
theorem PSq.turned {a' : Nat} (h : PSq w base S A c a ts NA nc ps x3) (ht : Turn (fun k => k = S) w w') (hb : Mbox w' S [.slice A ts.length c, .int .i64 a', .slice NA ps.length nc, x3]) : PSq w' base S A c a' ts NA nc ps x3 where
  box := hb
  low := h.low
  lt := Nat.lt_of_lt_of_le h.lt ht.size
  toks := h.toks.below (ht.below (Nat.le_of_lt (Nat.lt_of_le_of_lt h.low h.lt)) (fun k e => by rw [e]; exact h.low))
  nodes := ⟨own_keepN h.nodes.1 (fun b hbk => ht.block (h.nodes.1.lt b hbk).2 (fun e => h.apN (by rw [← e]; exact blk_of hbk))), fun i hi => ⟨qo_keep (h.nodes.2.1 i hi).1 (fun b hbk => ht.block (qo_lt (h.nodes.2.1 i hi).1 hbk) (fun e => h.apA i hi (by rw [← e]; exact hbk))), (h.nodes.2.1 i hi).2⟩, h.nodes.2.2⟩
  apN := h.apN
  apA := h.apA
/-- a store into the state: the next token -/
theorem PSq.next {a' : Nat} (h : PSq w base S A c a ts NA nc ps x3) : PSq (w.setCell ⟨S, 1, none⟩ (.int .i64 a')) base S A c a' ts NA nc ps x3 :=
  h.turned ((Turn.refl (fun k => k = S) w).setCell (g := S) (i := 1) rfl _) (h.box.put 1 _)
end
/-- what a part of the program's parser leaves: a panic with the offset, or the node's index -/
def PQost (base S : Nat) (A : Option Addr) (c : Nat) (ts : List Tk) (NA : Option Addr) (ps : List PN) (x3 : Value) (R : PR) (w : World) (e : Ending) (w' : World) : Prop :=
  match R with
  | .bad o => e = .panicked (panicV o) ∧ Below base w w'
  | .ok r a' ns' => e = .returned (.int .i64 r) ∧ ∃ (NA' : Option Addr) (nc' : Nat) (ps' : List PN), ps'.map Prod.snd = ns' ∧ PSq w' base S A c a' ts NA' nc' ps' x3 ∧ Turn (TS S NA) w w' ∧ NewN w NA NA' ∧ ps'.length ≤ 60 ∧ FrA w ps ps'
section
variable {w w1 w2 : World} {base S : Nat} {A NA NA' : Option Addr} {c a nc : Nat} {ts : List Tk} {ps : List PN} {x3 : Value}
theorem PSq.under (h : PSq w base S A c a ts NA nc ps x3) (ht : Turn (TS S NA) w w1) : Below base w w1 :=
  ht.below (Nat.le_of_lt (Nat.lt_of_le_of_lt h.low h.lt)) (fun k e => by
    rcases e with e | e
    · rw [e]; exact h.low
    · exact (h.nodes.1.lt k (of_blk e)).1)
theorem PQost.up {ps1 : List PN} {R : PR} {e : Ending} (hp : PQost base S A c ts NA' ps1 x3 R w1 e w2) (hb : Below base w w1) (ht : Turn (TS S NA) w w1) (hn : NewN w NA NA') (hf : FrA w ps ps1) : PQost base S A c ts NA ps x3 R w e w2 := by
  cases R with
  | bad o => exact ⟨hp.1, hb.trans hp.2⟩
  | ok r a' ns' =>
    obtain ⟨he, NA2, nc2, ps2, h1, h2, h3, h4, h5, h6⟩ := hp
    exact ⟨he, NA2, nc2, ps2, h1, h2, turn_chain ht hn h3, newN_trans ht.size hn h4, h5, hf.trans ht.size h6⟩
/-- a literal of integers beside the state: arguments for the next node -/
theorem PSq.lit (h : PSq w base S A c a ts NA nc ps x3) (xs : List Int) (cs : Array Value) (hc : cs.toList = xs.map I64) (hm : xs.length ≤ maxLen) :
    PSq (w.alloc (.cells cs 3)) base S A c a ts NA nc ps x3 ∧ QO base (w.alloc (.cells cs 3)) (some ⟨w.heap.size, 0, none⟩, xs.length) xs ∧ Apart (some ⟨w.heap.size, 0, none⟩) NA ∧ blk (some ⟨w.heap.size, 0, none⟩) ≠ some S ∧ ∀ i (hi : i < ps.length), Apart (ps[i]).1.1 (some ⟨w.heap.size, 0, none⟩) := by
  have hl : cs.size = xs.length := by
    have := congrArg List.length hc
    simpa using this
  refine ⟨h.later ((Below.refl _ _).alloc (Nat.le_refl _) _), ?_, fun k hk he => ?_, fun he => ?_, fun i hi k hk he => ?_⟩
  · have ho := World.ownsRow_lit w cs xs.length (e := 3) (size := 1) (base := base) (Nat.le_of_lt (Nat.lt_of_le_of_lt h.low h.lt)) hm (by rw [hl]; simp)
    unfold QO
    rw [← hc]
    exact ho
  · have e1 : w.heap.size = k := by injection hk
    have := (h.nodes.1.lt k (of_blk he)).2
    omega
  · have e1 : w.heap.size = S := by injection he
    have := h.lt
    omega
  · have e1 : w.heap.size = k := by injection he
    have := qo_lt (h.nodes.2.1 i hi).1 hk
    omega
theorem PSq.bare : QO base w (none, 0) [] ∧ Apart none NA ∧ blk none ≠ some S ∧ ∀ i (hi : i < ps.length), Apart (ps[i]).1.1 none := by
  exact ⟨World.ownsRow_nil _ _ _ _, (fun k hk => (by cases hk)), (fun he => (by cases he)), (fun i hi k hk he => (by cases he))⟩
end

section
variable {w0 wr w' : World} {base S : Nat} {A NA NA' GA GA' : Option Addr} {ps ps' : List PN} {c a nc gc gc' : Nat} {xs : List Int} {ts : List Tk} {x3 : Value}
/-- where only the arguments' block has turned -/
theorem PSq.argT (h : PSq wr base S A c a ts NA nc ps x3) (hg : ArgS w0 wr base S NA ps GA gc xs) (ht : Turn (fun k => blk GA = some k) wr w') : PSq w' base S A c a ts NA nc ps x3 where
  box := h.box.keep fun _ => ht.block h.lt hg.apS
  low := h.low
  lt := Nat.lt_of_lt_of_le h.lt ht.size
  toks := h.toks.below (ht.below (Nat.le_of_lt (Nat.lt_of_le_of_lt h.low h.lt)) (fun k e => (hg.own.lt k (of_blk e)).1))
  nodes := ⟨own_keepN h.nodes.1 (fun b hbk => ht.block (h.nodes.1.lt b hbk).2 (fun e => hg.apN b e (blk_of hbk))), fun i hi => ⟨qo_keep (h.nodes.2.1 i hi).1 (fun b hbk => ht.block (qo_lt (h.nodes.2.1 i hi).1 hbk) (fun e => hg.apA _ (List.getElem_mem hi) b hbk e)), (h.nodes.2.1 i hi).2⟩, h.nodes.2.2⟩
  apN := h.apN
  apA := h.apA
theorem ArgS.appQ (h : ArgS w0 wr base S NA ps GA gc xs) (hst : PSq wr base S A c a ts NA nc ps x3) (hsz : w0.heap.size ≤ wr.heap.size) {r : Int} (ho : QO base w' (GA', gc') (xs ++ [r])) (hat : blk GA' = blk GA ∨ blk GA' = some wr.heap.size) : ArgS w0 w' base S NA ps GA' gc' (xs ++ [r]) where
  own := ho
  apN := fun k hk he => by
    rcases hat with e | e
    · exact h.apN k (by rw [← e]; exact hk) he
    · rw [e] at hk
      injection hk with hk
      have := (hst.nodes.1.lt k (of_blk he)).2
      omega
  apS := fun he => by
    rcases hat with e | e
    · exact h.apS (by rw [← e]; exact he)
    · rw [e] at he
      injection he with he
      have := hst.lt
      omega
  apA := fun p hp k hk he => by
    rcases hat with e | e
    · exact h.apA p hp k hk (by rw [← e]; exact he)
    · rw [e] at he
      injection he with he
      obtain ⟨i, hi, rfl⟩ := List.getElem_of_mem hp
      have := qo_lt (hst.nodes.2.1 i hi).1 hk
      omega
  new := fun b hb => by
    rcases hat with e | e
    · exact h.new b (by rw [← e]; exact hb)
    · rw [e] at hb
      injection hb with hb
      omega
/-- a literal of integers that is the call's own: arguments under way -/
theorem ArgS.none : ArgS w0 wr base S NA ps none 0 [] :=
  ⟨World.ownsRow_nil _ _ _ _, fun k h => (by cases h), (fun h => by cases h), fun _ _ k _ h => (by cases h), fun b h => by cases h⟩
end

theorem add_any {base S c a nc : Nat} {A NA : Option Addr} {ts : List Tk} {ps : List PN} {x3 : Value} (q : PN) (w : World) (h : PSq w base S A c (a + 1) ts NA nc ps x3) (ha : a < ts.length) (hl : ts.length ≤ 1099511627776) (hn : ps.length ≤ 60)
    (hq : QO base w q.1 q.2.2.2.2) (hqN : Apart q.1.1 NA) (hqS : blk q.1.1 ≠ some S) (hqA : ∀ i (h : i < ps.length), Apart (ps[i]).1.1 q.1.1) :
    Calls Tryz.prog 66 #[.pointer (some ⟨S, 0, none⟩), .agg #[.int .i64 q.2.1, .string q.2.2.1, .int .i64 q.2.2.2.1, .slice q.1.1 q.2.2.2.2.length q.1.2]] w (PQost base S A c ts NA (ps ++ [q]) x3 (emitP ts (a + 1) (ps.map Prod.snd) q.2) w) := by
  unfold emitP
  rw [List.length_map]
  by_cases h60 : ps.length = 60
  · rw [if_pos h60]
    refine (add_bad S c a ps.length nc A NA ts x3 q w h.box (h.toks.more (Nat.le_of_lt (Nat.lt_of_le_of_lt h.low h.lt))) ha hl h60).mono ?_
    rintro e w' ⟨rfl, hb⟩
    exact ⟨rfl, hb.mono (Nat.le_of_lt (Nat.lt_of_le_of_lt h.low h.lt))⟩
  · rw [if_neg h60]
    refine (add_ok S base c (a + 1) nc A NA ts ps x3 q w h.box ⟨Nat.le_of_lt (Nat.lt_of_le_of_lt h.low h.lt), h.lt⟩ h.nodes.1 h.apN hn h60).mono ?_
    rintro e w' ⟨rfl, NA', nc', ht, hm, ho, hnew⟩
    have hkq : ∀ (a' : Option Addr × Nat) (xs : List Int), QO base w a' xs → Apart a'.1 NA → blk a'.1 ≠ some S → QO base w' a' xs := fun a' xs hqo h1 h2 => qo_keep hqo (fun b hb => ht.block (qo_lt hqo hb) (fun c => by
      rcases c with c | c
      · exact h2 (by rw [← c]; exact hb)
      · exact h1 b hb c))
    have hkn : ∀ (a' : Option Addr × Nat) (xs : List Int), QO base w a' xs → Apart a'.1 NA → Apart a'.1 NA' := fun a' xs hqo h1 k hk he => by
      rcases hnew with e | ⟨j, e, hj⟩
      · exact h1 k hk (by rw [← e]; exact he)
      · rw [e] at he
        injection he with he
        have := qo_lt hqo hk
        omega
    refine ⟨rfl, NA', nc', ps ++ [q], by simp, ⟨by simpa using hm, h.low, Nat.lt_of_lt_of_le h.lt ht.size, h.toks.below (ht.below (Nat.le_of_lt (Nat.lt_of_le_of_lt h.low h.lt)) (fun k e => ?_)), ⟨by simpa using ho, fun i hi => ?_, fun i j hi hj hne => ?_⟩, ?_, fun i hi => ?_⟩, ht, hnew, by simp; omega, FrA.refl _ _⟩
    · rcases e with e | e
      · rw [e]; exact h.low
      · exact (h.nodes.1.lt k (of_blk e)).1
    · by_cases hi2 : i < ps.length
      · rw [List.getElem_append_left hi2]
        have := h.nodes.2.1 i hi2
        exact ⟨hkq _ _ this.1 this.2 (h.apA i hi2), hkn _ _ this.1 this.2⟩
      · have e : i = ps.length := by simp at hi; omega
        subst e
        rw [List.getElem_append_right (Nat.le_refl _)]
        simp only [Nat.sub_self, List.getElem_cons_zero]
        exact ⟨hkq _ _ hq hqN hqS, hkn _ _ hq hqN⟩
    · by_cases hi2 : i < ps.length
      · by_cases hj2 : j < ps.length
        · rw [List.getElem_append_left hi2, List.getElem_append_left hj2]
          exact h.nodes.2.2 i j hi2 hj2 hne
        · have e : j = ps.length := by simp at hj; omega
          subst e
          rw [List.getElem_append_left hi2, List.getElem_append_right (Nat.le_refl _)]
          simp only [Nat.sub_self, List.getElem_cons_zero]
          exact hqA i hi2
      · have e : i = ps.length := by simp at hi; omega
        subst e
        have hj2 : j < ps.length := by simp at hj; omega
        rw [List.getElem_append_left hj2, List.getElem_append_right (Nat.le_refl _)]
        simp only [Nat.sub_self, List.getElem_cons_zero]
        exact (hqA j hj2).symm
    · intro e2
      rcases hnew with e | ⟨j, e, hj⟩
      · exact h.apN (by rw [← e]; exact e2)
      · rw [e] at e2
        injection e2 with e2
        have := h.lt
        omega
    · by_cases hi2 : i < ps.length
      · rw [List.getElem_append_left hi2]
        exact h.apA i hi2
      · have e : i = ps.length := by simp at hi; omega
        subst e
        rw [List.getElem_append_right (Nat.le_refl _)]
        simp only [Nat.sub_self, List.getElem_cons_zero]
        exact hqS
end Go.Proofs.YtkbdnjhgcoihhaaGreatDoor
