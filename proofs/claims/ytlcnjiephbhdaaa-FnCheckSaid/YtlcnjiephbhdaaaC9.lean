/- Merged texts: Ra Rb Rc Rd Re Rf Rg Rh Ri Rk Rl Rn Ro. -/
import Derived.Test.YtlcnjiephbhdaaaProg
import Derived.Test.YtlcnjiephbhdaaaC0
import Derived.Test.YtlcnjiephbhdaaaC1
import Derived.Test.YtlcnjiephbhdaaaC7
import Derived.Test.YtlcnjiephbhdaaaC8
import Derived.WalkKit
import Derived.WalkSpells
import Derived.WalkLawsBesides
import Derived.Lib.Hide
import Derived.Deep.RegionHeld3
import Derived.Deep.QuietTactic
import Derived.BigQuiet
import Derived.Handy
import Derived.Deep.DeepCutAuto
import Derived.Lib.Bytealg
import Derived.Lib.IndexLaws
import Derived.Deep.AppendLies
import Derived.Deep.RegionLaw
import Derived.StillTailTactics
import Derived.Maps.AppendAt
import Derived.Defers
import Derived.Recover
namespace Go.Proofs.Ytlcnjiephbhdaaa
section
open Go.RowKit

theorem idx_in (l : List UInt8) (c : UInt8) : decide (0 ≤ Lib.indexByte l c) = l.contains c := by
  induction l with
  | nil => rfl
  | cons b l ih =>
    have hge := Lib.indexByte_ge l c
    rw [List.contains_cons]
    unfold Lib.indexByte
    by_cases h : b = c
    · subst h
      simp
    · have h1 : (b == c) = false := by simpa using h
      have h2 : (c == b) = false := by simpa using fun e => h e.symm
      rw [h1, h2, Bool.false_or, ← ih]
      by_cases hm : Lib.indexByte l c = -1
      · simp [hm]
      · have hm2 : (Lib.indexByte l c == -1) = false := by simpa using hm
        simp only [hm2]
        by_cases h0 : 0 ≤ Lib.indexByte l c
        · simp [h0]
          omega
        · omega
/-- a token as the lexer makes it -/
def TkForm (t : Tk) : Prop := (t.1 = 0 ∧ t.2.1 = ⟨#[]⟩) ∨ (t.1 = 1 ∧ ∃ (b : UInt8) (l : List UInt8), t.2.1.data.toList = b :: l ∧ symB b = false) ∨ (t.1 = 2 ∧ ∃ (b : UInt8) (l : List UInt8), t.2.1.data.toList = b :: l ∧ symB b = false) ∨ (t.1 = 3 ∧ ∃ b, t.2.1 = ⟨#[b]⟩ ∧ symB b = true)
theorem ba_mk (s : ByteArray) : s = ⟨s.data.toList.toArray⟩ := by
  apply ByteArray.ext
  simp
/-- what is asked of the next symbol: whether it is one of these -/
def seeB (l : List UInt8) (ts : List Tk) (a : Nat) : Bool := l.any fun c => decide (symA ts a = ⟨#[c]⟩)
theorem see_not {l : List UInt8} {ts : List Tk} {a : Nat} (h : (tkA ts a).1 ≠ 3) : seeB l ts a = false := by
  unfold seeB symA
  rw [if_neg h]
  rw [List.any_eq_false]
  intro c _
  simp
theorem see_sym {l : List UInt8} {ts : List Tk} {a : Nat} {b : UInt8} (h : (tkA ts a).1 = 3) (hb : (tkA ts a).2.1 = ⟨#[b]⟩) : seeB l ts a = l.contains b := by
  unfold seeB symA
  rw [if_pos h, hb]
  induction l with
  | nil => rfl
  | cons c l ih =>
    rw [List.any_cons, ih, List.contains_cons]
    congr 1
    by_cases e : b = c
    · subst e
      simp
    · have : (b == c) = false := by simpa using e
      rw [this]
      simp
      exact e
theorem see_one {c : UInt8} {ts : List Tk} {a : Nat} : seeB [c] ts a = decide (symA ts a = ⟨#[c]⟩) := by simp [seeB]
theorem see_two {c d : UInt8} {ts : List Tk} {a : Nat} : seeB [c, d] ts a = (decide (symA ts a = ⟨#[c]⟩) || decide (symA ts a = ⟨#[d]⟩)) := by simp [seeB]
theorem op_see (add : Bool) (ts : List Tk) (a : Nat) : opP add (symA ts a) = 0 ↔ seeB (if add = true then [43, 45] else [42, 47]) ts a = false := by
  cases add with
  | true =>
    rw [if_pos rfl, see_two]
    unfold opP
    rw [if_pos rfl]
    by_cases h1 : symA ts a = ⟨#[43]⟩
    · simp [h1]
    · by_cases h2 : symA ts a = ⟨#[45]⟩
      · simp [h2]
      · simp [h1, h2]
  | false =>
    rw [if_neg (by simp), see_two]
    unfold opP
    rw [if_neg (by simp)]
    by_cases h1 : symA ts a = ⟨#[42]⟩
    · simp [h1]
    · by_cases h2 : symA ts a = ⟨#[47]⟩
      · simp [h2]
      · simp [h1, h2]
theorem op_index {add : Bool} {ts : List Tk} {a : Nat} (h : opP add (symA ts a) ≠ 0) : ∃ b : UInt8, (tkA ts a).2.1 = ⟨#[b]⟩ ∧ opP add (symA ts a) = 4 + Lib.indexByte [43, 45, 42, 47] b := by
  have hk : (tkA ts a).1 = 3 := by
    by_cases hk : (tkA ts a).1 = 3
    · exact hk
    · exact absurd ((op_see add ts a).2 (see_not hk)) h
  have hs : symA ts a = (tkA ts a).2.1 := by unfold symA; rw [if_pos hk]
  rw [hs] at h ⊢
  cases add with
  | true =>
    unfold opP at h ⊢
    rw [if_pos rfl] at h ⊢
    by_cases h1 : (tkA ts a).2.1 = ⟨#[43]⟩
    · exact ⟨43, h1, by rw [if_pos h1]; rfl⟩
    · by_cases h2 : (tkA ts a).2.1 = ⟨#[45]⟩
      · exact ⟨45, h2, by rw [if_neg h1, if_pos h2]; rfl⟩
      · rw [if_neg h1, if_neg h2] at h
        exact absurd rfl h
  | false =>
    unfold opP at h ⊢
    rw [if_neg (by simp)] at h ⊢
    by_cases h1 : (tkA ts a).2.1 = ⟨#[42]⟩
    · exact ⟨42, h1, by rw [if_pos h1]; rfl⟩
    · by_cases h2 : (tkA ts a).2.1 = ⟨#[47]⟩
      · exact ⟨47, h2, by rw [if_neg h1, if_pos h2]; rfl⟩
      · rw [if_neg h1, if_neg h2] at h
        exact absurd rfl h

/-- how a part of the parser stops: a panic with the offset -/
def panicV (o : Int) : List PanicEntry := [{ v := .iface 3 (.agg #[.int .i64 o]), recovered := false }]
theorem Turn.thenB {T : Nat → Prop} {w w1 w2 : World} (h : Turn T w w1) (hb : Below w.heap.size w1 w2) : Turn T w w2 :=
  ⟨hb.os.trans h.1, hb.tape.trans h.2.1, hb.output.trans h.2.2.1, Nat.le_trans h.size hb.size, fun k hk hn => (hb.block k hk).trans (h.block hk hn)⟩


end

section
open Go.RowKit

section
variable (a c d : Int) (b : ByteArray) (w : World)
theorem tok_fld0 : (Instr.field 79 (.agg #[.int .i64 a, .string b, .int .i64 c, .int .i64 d]) 0).run Try.prog w = .ok (.int .i64 a) w := by kernel_rfl
theorem tok_fld1 : (Instr.field 79 (.agg #[.int .i64 a, .string b, .int .i64 c, .int .i64 d]) 1).run Try.prog w = .ok (.string b) w := by kernel_rfl
theorem tok_fld2 : (Instr.field 79 (.agg #[.int .i64 a, .string b, .int .i64 c, .int .i64 d]) 2).run Try.prog w = .ok (.int .i64 c) w := by kernel_rfl
theorem tok_fld3 : (Instr.field 79 (.agg #[.int .i64 a, .string b, .int .i64 c, .int .i64 d]) 3).run Try.prog w = .ok (.int .i64 d) w := by kernel_rfl
end

theorem ret_bQ {a b : Bool} (h : a = b) : Ending.returned (.bool a) = .returned (.bool b) := by rw [h]






end

section
open Go.RowKit


end

section
open Go.RowKit

/-- the parser under way: its state in block S, its tokens below base, its nodes its own -/
structure PSq (w : World) (base S : Nat) (A : Option Addr) (c a : Nat) (ts : List Tk) (NA : Option Addr) (nc : Nat) (ps : List PN) (x3 : Value) : Prop where
  box : Mbox w S [.slice A ts.length c, .int .i64 a, .slice NA ps.length nc, x3]
  low : base ≤ S
  lt : S < w.heap.size
  toks : RowC 4 tkg w base A ts
  nodes : NdG (QO base) w base NA nc ps
  apN : blk NA ≠ some S
  apA : ∀ i (h : i < ps.length), blk (ps[i]).1.1 ≠ some S
section
variable {w w' : World} {base S : Nat} {A NA : Option Addr} {c a nc : Nat} {ts : List Tk} {ps : List PN} {x3 : Value}
/-- behind a call that leaves all that lay -/
theorem PSq.later (h : PSq w base S A c a ts NA nc ps x3) (hb : Below w.heap.size w w') : PSq w' base S A c a ts NA nc ps x3 where
  box := h.box.later hb
  low := h.low
  lt := Nat.lt_of_lt_of_le h.lt hb.size
  toks := h.toks.below (hb.mono (Nat.le_of_lt (Nat.lt_of_le_of_lt h.low h.lt)))
  nodes := ⟨own_keep' h.nodes.1 hb, fun i hi => ⟨qo_keep (h.nodes.2.1 i hi).1 (fun b hbk => hb.block b (qo_lt (h.nodes.2.1 i hi).1 hbk)), (h.nodes.2.1 i hi).2⟩, h.nodes.2.2⟩
  apN := h.apN
  apA := h.apA
/-- where only the state's block has turned -/
theorem PSq.turned {a' : Nat} (h : PSq w base S A c a ts NA nc ps x3) (ht : Turn (fun k => k = S) w w') (hb : Mbox w' S [.slice A ts.length c, .int .i64 a', .slice NA ps.length nc, x3]) : PSq w' base S A c a' ts NA nc ps x3 where
  box := hb
  low := h.low
  lt := Nat.lt_of_lt_of_le h.lt ht.size
  toks := h.toks.below (ht.below (Nat.le_of_lt (Nat.lt_of_le_of_lt h.low h.lt)) (fun k e => by rw [e]; exact h.low))
  nodes := ⟨own_keepN h.nodes.1 (fun b hbk => ht.block (h.nodes.1.lt b hbk).2 (fun e => h.apN (by rw [← e]; exact blk_of hbk))), fun i hi => ⟨qo_keep (h.nodes.2.1 i hi).1 (fun b hbk => ht.block (qo_lt (h.nodes.2.1 i hi).1 hbk) (fun e => h.apA i hi (by rw [← e]; exact hbk))), (h.nodes.2.1 i hi).2⟩, h.nodes.2.2⟩
  apN := h.apN
  apA := h.apA
/-- a store into the state: the next token -/
theorem PSq.next {a' : Nat} (h : PSq w base S A c a ts NA nc ps x3) : PSq (w.setCell ⟨S, 1, none⟩ (.int .i64 a')) base S A c a' ts NA nc ps x3 :=
  h.turned ((Turn.refl (fun k => k = S) w).setCell (g := S) (i := 1) rfl _) (h.box.put 1 _)
end
/-- what a part of the program's parser leaves: a panic with the offset, or the node's index -/
def PQost (base S : Nat) (A : Option Addr) (c : Nat) (ts : List Tk) (NA : Option Addr) (ps : List PN) (x3 : Value) (R : PR) (w : World) (e : Ending) (w' : World) : Prop :=
  match R with
  | .bad o => e = .panicked (panicV o) ∧ Below base w w'
  | .ok r a' ns' => e = .returned (.int .i64 r) ∧ ∃ (NA' : Option Addr) (nc' : Nat) (ps' : List PN), ps'.map Prod.snd = ns' ∧ PSq w' base S A c a' ts NA' nc' ps' x3 ∧ Turn (TS S NA) w w' ∧ NewN w NA NA' ∧ ps'.length ≤ 60 ∧ FrA w ps ps'
section
variable {w w1 w2 : World} {base S : Nat} {A NA NA' : Option Addr} {c a nc : Nat} {ts : List Tk} {ps : List PN} {x3 : Value}
theorem PSq.under (h : PSq w base S A c a ts NA nc ps x3) (ht : Turn (TS S NA) w w1) : Below base w w1 :=
  ht.below (Nat.le_of_lt (Nat.lt_of_le_of_lt h.low h.lt)) (fun k e => by
    rcases e with e | e
    · rw [e]; exact h.low
    · exact (h.nodes.1.lt k (of_blk e)).1)
theorem PQost.up {ps1 : List PN} {R : PR} {e : Ending} (hp : PQost base S A c ts NA' ps1 x3 R w1 e w2) (hb : Below base w w1) (ht : Turn (TS S NA) w w1) (hn : NewN w NA NA') (hf : FrA w ps ps1) : PQost base S A c ts NA ps x3 R w e w2 := by
  cases R with
  | bad o => exact ⟨hp.1, hb.trans hp.2⟩
  | ok r a' ns' =>
    obtain ⟨he, NA2, nc2, ps2, h1, h2, h3, h4, h5, h6⟩ := hp
    exact ⟨he, NA2, nc2, ps2, h1, h2, turn_chain ht hn h3, newN_trans ht.size hn h4, h5, hf.trans ht.size h6⟩
/-- a literal of integers beside the state: arguments for the next node -/
theorem PSq.lit (h : PSq w base S A c a ts NA nc ps x3) (xs : List Int) (cs : Array Value) (hc : cs.toList = xs.map I64) (hm : xs.length ≤ maxLen) :
    PSq (w.alloc (.cells cs 3)) base S A c a ts NA nc ps x3 ∧ QO base (w.alloc (.cells cs 3)) (some ⟨w.heap.size, 0, none⟩, xs.length) xs ∧ Apart (some ⟨w.heap.size, 0, none⟩) NA ∧ blk (some ⟨w.heap.size, 0, none⟩) ≠ some S ∧ ∀ i (hi : i < ps.length), Apart (ps[i]).1.1 (some ⟨w.heap.size, 0, none⟩) := by
  have hl : cs.size = xs.length := by
    have := congrArg List.length hc
    simpa using this
  refine ⟨h.later ((Below.refl _ _).alloc (Nat.le_refl _) _), ?_, fun k hk he => ?_, fun he => ?_, fun i hi k hk he => ?_⟩
  · have ho := World.ownsRow_lit w cs xs.length (e := 3) (size := 1) (base := base) (Nat.le_of_lt (Nat.lt_of_le_of_lt h.low h.lt)) hm (by rw [hl]; simp)
    unfold QO
    rw [← hc]
    exact ho
  · have e1 : w.heap.size = k := by injection hk
    have := (h.nodes.1.lt k (of_blk he)).2
    omega
  · have e1 : w.heap.size = S := by injection he
    have := h.lt
    omega
  · have e1 : w.heap.size = k := by injection he
    have := qo_lt (h.nodes.2.1 i hi).1 hk
    omega
theorem PSq.bare : QO base w (none, 0) [] ∧ Apart none NA ∧ blk none ≠ some S ∧ ∀ i (hi : i < ps.length), Apart (ps[i]).1.1 none := by
  exact ⟨World.ownsRow_nil _ _ _ _, (fun k hk => (by cases hk)), (fun he => (by cases he)), (fun i hi k hk he => (by cases he))⟩
end

section
variable {w0 wr w' : World} {base S : Nat} {A NA NA' GA GA' : Option Addr} {ps ps' : List PN} {c a nc gc gc' : Nat} {xs : List Int} {ts : List Tk} {x3 : Value}
/-- where only the arguments' block has turned -/
theorem PSq.argT (h : PSq wr base S A c a ts NA nc ps x3) (hg : ArgS w0 wr base S NA ps GA gc xs) (ht : Turn (fun k => blk GA = some k) wr w') : PSq w' base S A c a ts NA nc ps x3 where
  box := h.box.keep fun _ => ht.block h.lt hg.apS
  low := h.low
  lt := Nat.lt_of_lt_of_le h.lt ht.size
  toks := h.toks.below (ht.below (Nat.le_of_lt (Nat.lt_of_le_of_lt h.low h.lt)) (fun k e => (hg.own.lt k (of_blk e)).1))
  nodes := ⟨own_keepN h.nodes.1 (fun b hbk => ht.block (h.nodes.1.lt b hbk).2 (fun e => hg.apN b e (blk_of hbk))), fun i hi => ⟨qo_keep (h.nodes.2.1 i hi).1 (fun b hbk => ht.block (qo_lt (h.nodes.2.1 i hi).1 hbk) (fun e => hg.apA _ (List.getElem_mem hi) b hbk e)), (h.nodes.2.1 i hi).2⟩, h.nodes.2.2⟩
  apN := h.apN
  apA := h.apA
theorem ArgS.appQ (h : ArgS w0 wr base S NA ps GA gc xs) (hst : PSq wr base S A c a ts NA nc ps x3) (hsz : w0.heap.size ≤ wr.heap.size) {r : Int} (ho : QO base w' (GA', gc') (xs ++ [r])) (hat : blk GA' = blk GA ∨ blk GA' = some wr.heap.size) : ArgS w0 w' base S NA ps GA' gc' (xs ++ [r]) where
  own := ho
  apN := fun k hk he => by
    rcases hat with e | e
    · exact h.apN k (by rw [← e]; exact hk) he
    · rw [e] at hk
      injection hk with hk
      have := (hst.nodes.1.lt k (of_blk he)).2
      omega
  apS := fun he => by
    rcases hat with e | e
    · exact h.apS (by rw [← e]; exact he)
    · rw [e] at he
      injection he with he
      have := hst.lt
      omega
  apA := fun p hp k hk he => by
    rcases hat with e | e
    · exact h.apA p hp k hk (by rw [← e]; exact he)
    · rw [e] at he
      injection he with he
      obtain ⟨i, hi, rfl⟩ := List.getElem_of_mem hp
      have := qo_lt (hst.nodes.2.1 i hi).1 hk
      omega
  new := fun b hb => by
    rcases hat with e | e
    · exact h.new b (by rw [← e]; exact hb)
    · rw [e] at hb
      injection hb with hb
      omega
/-- a literal of integers that is the call's own: arguments under way -/
theorem ArgS.none : ArgS w0 wr base S NA ps none 0 [] :=
  ⟨World.ownsRow_nil _ _ _ _, fun k h => (by cases h), (fun h => by cases h), fun _ _ k _ h => (by cases h), fun b h => by cases h⟩
end

end

section
open Go.RowKit

/-- the tokens as the lexer leaves them -/
structure TsG (ts : List Tk) : Prop where
  ok : TsOk ts
  form : ∀ a, a < ts.length → TkForm (tkA ts a)
def wantB (add : Bool) : List UInt8 := if add = true then [43, 45] else [42, 47]
/-- what is left of a chain -/
def leftQ (S n : Nat) (w : World) : Nat :=
  match w.cell? ⟨S, 1, none⟩ with
  | some (.int _ q) => n + 1 - q.toNat
  | _ => 0
theorem leftQ_good {w : World} {base S : Nat} {A : Option Addr} {c a : Nat} {ts : List Tk} {NA : Option Addr} {nc : Nat} {ps : List PN} {x3 : Value} (h : PSq w base S A c a ts NA nc ps x3) : leftQ S ts.length w = ts.length + 1 - a := by
  unfold leftQ
  rw [h.box.c 1]
  simp
theorem PSq.rows {w : World} {base S : Nat} {A : Option Addr} {c a : Nat} {ts : List Tk} {NA : Option Addr} {nc : Nat} {ps : List PN} {x3 : Value} (h : PSq w base S A c a ts NA nc ps x3) : RowC 4 tkg w w.heap.size A ts := h.toks.more (Nat.le_of_lt (Nat.lt_of_le_of_lt h.low h.lt))
theorem PSq.baseLe {w : World} {base S : Nat} {A : Option Addr} {c a : Nat} {ts : List Tk} {NA : Option Addr} {nc : Nat} {ps : List PN} {x3 : Value} (h : PSq w base S A c a ts NA nc ps x3) : base ≤ w.heap.size := Nat.le_of_lt (Nat.lt_of_le_of_lt h.low h.lt)









end

section
open Go.RowKit

/-- what is still to come behind an argument, or behind a call's bracket where the call has none -/
def restP (ts : List Tk) (f : Nat) (nm : ByteArray) (xs : List Int) (a d : Nat) (ns : List Nd) : Option PR :=
  if symA ts a = ⟨#[44]⟩ then par ts f (.call nm xs (a + 1) d ns) else if symA ts a = ⟨#[41]⟩ then some (emitP ts (a + 1) ns (8, nm, 0, xs)) else some (.bad (offA ts a))
theorem call_rest {ts : List Tk} {f : Nat} {nm : ByteArray} {xs : List Int} {a d : Nat} {ns : List Nd} (h : ¬ xs.length = 3) : par ts (f + 1) (.call nm xs a d ns) = match par ts f (.bin true a d ns) with
    | some (.ok r a' ns') => restP ts f nm (xs ++ [(r : Int)]) a' d ns'
    | x => x := by
  simp only [par, if_neg h]
  cases par ts f (.bin true a d ns) with
  | none => rfl
  | some R => cases R <;> rfl
/-- what readArguments leaves -/
def ArgsPost (base S : Nat) (A : Option Addr) (c : Nat) (ts : List Tk) (NA : Option Addr) (ps : List PN) (x3 : Value) (nm : ByteArray) (R : PR) (w : World) (e : Ending) (w' : World) : Prop :=
  (∃ o, R = .bad o ∧ e = .panicked (panicV o) ∧ Below base w w') ∨
  (∃ (xs : List Int) (GA : Option Addr) (gc a' : Nat) (NA' : Option Addr) (nc' : Nat) (ps' : List PN), e = .returned (.slice GA xs.length gc) ∧ R = emitP ts (a' + 1) (ps'.map Prod.snd) (8, nm, 0, xs) ∧ PSq w' base S A c (a' + 1) ts NA' nc' ps' x3 ∧ Turn (TS S NA) w w' ∧ NewN w NA NA' ∧ ps'.length ≤ 60 ∧ FrA w ps ps' ∧ ArgS w w' base S NA' ps' GA gc xs ∧ a' < ts.length)


end

section
open Go.RowKit

theorem sym_kind {ts : List Tk} {a : Nat} (h : (tkA ts a).1 ≠ 3) : symA ts a = ⟨#[]⟩ := by unfold symA; rw [if_neg h]
theorem ite_no {p : Prop} [Decidable p] {α : Type} {x y : α} (h : ¬ p) : (if p then x else y) = y := if_neg h


end

section

theorem symB_dig {b : UInt8} (h : digB b = true) : symB b = false := by
  have h1 := (digB_iff b).1 h
  cases hs : symB b with
  | false => rfl
  | true =>
    have h2 := (symB_iff b).1 hs
    omega
theorem symB_let {b : UInt8} (h : letB b = true) : symB b = false := by
  have h1 := (letB_iff b).1 h
  cases hs : symB b with
  | false => rfl
  | true =>
    have h2 := (symB_iff b).1 hs
    omega
theorem ext_first {s : ByteArray} {k n : Nat} (h : k < s.size) (hn : 1 ≤ n) : ∃ l, (s.extract k (k + n)).data.toList = s[k] :: l := by
  rw [ext_list, show k + n - k = n by omega, drop_b s h]
  obtain ⟨m, rfl⟩ : ∃ m, n = m + 1 := ⟨n - 1, by omega⟩
  exact ⟨_, rfl⟩
theorem scan_form {s : ByteArray} {k : Nat} (h : k < s.size) {t : Tk} (ht : scanT s k s[k] = some t) : TkForm t ∧ 0 ≤ t.2.2.2 := by
  have hsz := scan_size h ht
  unfold scanT at ht
  by_cases hd : digB s[k] = true
  · rw [if_pos hd] at ht
    obtain ⟨x, hx, rfl⟩ := Option.map_eq_some_iff.1 ht
    obtain ⟨l, hl⟩ := ext_first h hsz.1
    rw [← hsz.2.2] at hl
    exact ⟨.inr (.inl ⟨rfl, _, l, hl, symB_dig hd⟩), by show (0 : Int) ≤ (k : Int); omega⟩
  · rw [if_neg hd] at ht
    by_cases hl : letB s[k] = true
    · rw [if_pos hl] at ht
      split at ht
      · obtain rfl := Option.some.inj ht
        obtain ⟨l, he⟩ := ext_first h hsz.1
        rw [← hsz.2.2] at he
        exact ⟨.inr (.inr (.inl ⟨rfl, _, l, he, symB_let hl⟩)), by show (0 : Int) ≤ (k : Int); omega⟩
      · cases ht
    · rw [if_neg hl] at ht
      split at ht
      · rename_i hs
        obtain rfl := Option.some.inj ht
        refine ⟨.inr (.inr (.inr ⟨rfl, s[k], ?_, hs⟩)), by show (0 : Int) ≤ (k : Int); omega⟩
        apply ext_eq
        rw [ext_list, show k + 1 - k = 1 by omega, drop_b s h]
        rfl
      · cases ht
def TkAll (l : List Tk) : Prop := ∀ t ∈ l, TkForm t ∧ 0 ≤ t.2.2.2
theorem tok_form {s : ByteArray} : ∀ (n k : Nat) (acc : List Tk), s.size - k = n → TkAll acc → k ≤ s.size → (tokT s k acc).2 = -1 → TkAll (tokT s k acc).1 ∧ ∃ l, (tokT s k acc).1 = l ++ [(0, ByteArray.empty, 0, (s.size : Int))] := by
  intro n
  induction n using Nat.strongRecOn with
  | ind n ih =>
    intro k acc hn ha hk h1
    by_cases h : k < s.size
    · cases hb : blkB s[k] with
      | true =>
        rw [tok_blank h hb] at h1 ⊢
        exact ih (s.size - (k + 1)) (by omega) (k + 1) acc rfl ha (by omega) h1
      | false =>
        cases ht : scanT s k s[k] with
        | none =>
          rw [tok_none h hb ht] at h1
          simp only at h1
          omega
        | some t =>
          obtain ⟨h2, h3, _⟩ := scan_size h ht
          rw [tok_some h hb ht] at h1 ⊢
          refine ih (s.size - (k + t.2.1.size)) (by omega) _ _ rfl (fun x hx => ?_) h3 h1
          rcases List.mem_append.1 hx with hx | hx
          · exact ha x hx
          · rw [List.mem_singleton] at hx
            rw [hx]
            exact scan_form h ht
    · rw [tok_end (by omega)] at h1 ⊢
      refine ⟨fun x hx => ?_, acc, rfl⟩
      rcases List.mem_append.1 hx with hx | hx
      · exact ha x hx
      · rw [List.mem_singleton] at hx
        rw [hx]
        exact ⟨.inl ⟨rfl, rfl⟩, by show (0 : Int) ≤ (s.size : Int); omega⟩
theorem tok_off {s : ByteArray} : ∀ (n k : Nat) (acc : List Tk), s.size - k = n → (tokT s k acc).2 = -1 ∨ 0 ≤ (tokT s k acc).2 := by
  intro n
  induction n using Nat.strongRecOn with
  | ind n ih =>
    intro k acc hn
    by_cases h : k < s.size
    · cases hb : blkB s[k] with
      | true =>
        rw [tok_blank h hb]
        exact ih (s.size - (k + 1)) (by omega) (k + 1) acc rfl
      | false =>
        cases ht : scanT s k s[k] with
        | none =>
          rw [tok_none h hb ht]
          right
          show (0 : Int) ≤ (k : Int)
          omega
        | some t =>
          obtain ⟨h2, h3, _⟩ := scan_size h ht
          rw [tok_some h hb ht]
          exact ih (s.size - (k + t.2.1.size)) (by omega) _ _ rfl
    · rw [tok_end (by omega)]
      exact .inl rfl
theorem tokP_off (s : ByteArray) : (tokP s).2 = -1 ∨ 0 ≤ (tokP s).2 := by
  unfold tokP
  split
  · exact .inr (by decide)
  · exact tok_off _ _ _ rfl
theorem tokP_good {s : ByteArray} (h : (tokP s).2 = -1) : TsG (tokP s).1 := by
  unfold tokP at h ⊢
  split at h
  · cases h
  · rename_i hs
    rw [if_neg hs]
    obtain ⟨h1, l, h2⟩ := tok_form _ 0 [] rfl (fun t ht => by cases ht) (Nat.zero_le _) h
    have h3 := tok_len (s := s) _ 0 [] rfl (Nat.le_refl _) (Nat.zero_le _)
    generalize (tokT s 0 []).1 = ts at h1 h2 h3
    refine ⟨⟨⟨by rw [h2]; simp, ?_⟩, by omega, fun a => ?_⟩, fun a ha => ?_⟩
    · rw [tkA_at (by rw [h2]; simp)]
      simp [h2]
    · unfold offA
      by_cases ha : a < ts.length
      · rw [tkA_at ha]
        exact (h1 _ (List.getElem_mem ha)).2
      · unfold tkA
        rw [show ts.getD a (0, ByteArray.empty, 0, 0) = (0, ByteArray.empty, 0, 0) by simp [List.getD, List.getElem?_eq_none (Nat.le_of_not_lt ha)]]
        exact Int.le_refl _
    · rw [tkA_at ha]
      exact (h1 _ (List.getElem_mem ha)).1
/-- a program, or the offset of the error -/
inductive PA where
  | bad (o : Int)
  | done (ns : List Nd) (ys : List As)
def prsP (ts : List Tk) (F : Nat) : Nat → Nat → List Nd → List As → Option PA
  | 0, _, _, _ => none
  | f + 1, a, ns, ys =>
    if (tkA ts a).1 = 0 then some (.done ns ys)
    else if (tkA ts a).1 ≠ 2 then some (.bad (offA ts a))
    else if symA ts (a + 1) ≠ ⟨#[61]⟩ then some (.bad (offA ts (a + 1)))
    else match par ts F (.bin true (a + 2) 1 ns) with
      | some (.ok r a' ns') => if symA ts a' = ⟨#[59]⟩ then prsP ts F f (a' + 1) ns' (ys ++ [((tkA ts a).2.1, (r : Int))]) else some (.bad (offA ts a'))
      | some (.bad o) => some (.bad o)
      | none => none
theorem prs_some {ts : List Tk} (h : EndsT ts) : ∀ (f a : Nat) (ns : List Nd) (ys : List As), a < ts.length → ts.length - a ≤ f → ∃ R, prsP ts (4 * ts.length + 4) f a ns ys = some R := by
  intro f
  induction f with
  | zero => intro a ns ys ha hf; omega
  | succ f ih =>
    intro a ns ys ha hf
    unfold prsP
    split
    · exact ⟨_, rfl⟩
    split
    · exact ⟨_, rfl⟩
    rename_i h0 h2
    have h2 : (tkA ts a).1 = 2 := by simpa using h2
    have hk := kind_next h ha (by rw [h2]; decide)
    split
    · exact ⟨_, rfl⟩
    rename_i h3
    have h3 : symA ts (a + 1) = ⟨#[61]⟩ := by simpa using h3
    have hk2 := sym_next h hk h3 (by decide)
    obtain ⟨R, hR, hG⟩ := par_some h (4 * ts.length + 4) (.bin true (a + 2) 1 ns) hk2 (by simp only [fuelM]; simp; omega)
    rw [hR]
    cases R with
    | bad o => exact ⟨_, rfl⟩
    | ok r a' ns' =>
      have hg := hG _ _ _ rfl
      simp only [atM] at hg
      simp only
      split
      · rename_i h4
        have hk3 := sym_next h hg.1 h4 (by decide)
        exact ih _ _ _ hk3 (by omega)
      · exact ⟨_, rfl⟩
/-- what Parse answers -/
def parseR (s : ByteArray) : PA :=
  if (tokP s).2 = -1 then (prsP (tokP s).1 (4 * (tokP s).1.length + 4) ((tokP s).1.length + 1) 0 [] []).getD (.bad 0) else .bad (tokP s).2
end

section
open Go.RowKit

/-- append of one struct of two cells, and where the answer lies -/
theorem wpList_app2_at {P : Program} {ops : Array Oper} {rest : List Oper} {o : Oper} {a : Act} {Q : Exit → Act → World → Prop} (w : World) (hgd : o.guard = none) (s x : Operand) (t : TypeId)
    (ho : o.op = .call { callee := .builtin .append, args := #[s, x], argTypes := #[t, t] }) (base : Nat) (e : TypeId) (z : Value) (bytes : Nat)
    (ht : P.underlying t = some (.slice e)) (hinfo : (P.info? e).map (fun i => (i.zero, i.size, i.bytes)) = some (some z, 2, bytes)) (hzs : z.cells.size = 2)
    (v : Value) (n : Nat) (xs : List Value) (hs : a.eval s = v) (hown : w.ownsRow base e 2 v n xs) (g : Nat) (u0 u1 : Value) (hx : a.eval x = .slice (some ⟨g, 0, none⟩) 1 1) (hc0 : w.cell? ⟨g, 0, none⟩ = some u0) (hc1 : w.cell? ⟨g, 1, none⟩ = some u1) (hu0 : u0.oneCell' = true) (hu1 : u1.oneCell' = true)
    (h63 : n + 1 ≤ maxLen) (hbytes : (n + 1) * bytes ≤ 140737488355328) (hbase : base ≤ w.heap.size)
    (h : ∀ v' w', w'.ownsRow base e 2 v' (n + 1) (xs ++ [u0, u1]) → w.grownBy w' v.ownBlock → (v'.ownBlock = v.ownBlock ∨ v'.ownBlock = some w.heap.size) → wpList P ops Q rest (a.put o.dst v') w') : wpList P ops Q (o :: rest) a w := by
  obtain ⟨i0, hi, hz0, hz1, hz2⟩ := info_parts hinfo
  refine wpList_append_own_at _ hgd s x t ho base e i0 z 2 bytes ht hi hz0 hz1 hz2 hzs (by omega) v n xs hs hown ⟨g, 0, none⟩ 1 1 [u0, u1] hx rfl ?_ ?_ h63 hbytes hbase ?_
  · intro j y hj
    match j, hj with
    | 0, hj => simp at hj; subst hj; simpa [Addr.add] using hc0
    | 1, hj => simp at hj; subst hj; simpa [Addr.add] using hc1
  · intro y hy; simp at hy; rcases hy with rfl | rfl
    · exact hu0
    · exact hu1
  · intro v' w' h1 h2 _ h4
    exact h v' w' h1 h2 h4
/-- an assignment on values -/
def asgP (ts : List Tk) (F a : Nat) (ns : List Nd) : Option PR :=
  if (tkA ts a).1 ≠ 2 then some (.bad (offA ts a))
  else if symA ts (a + 1) ≠ ⟨#[61]⟩ then some (.bad (offA ts (a + 1)))
  else match par ts F (.bin true (a + 2) 1 ns) with
    | some (.ok r a' ns') => if symA ts a' = ⟨#[59]⟩ then some (.ok r (a' + 1) ns') else some (.bad (offA ts a'))
    | x => x
theorem prs_step {ts : List Tk} {F f a : Nat} {ns : List Nd} {ys : List As} (h : (tkA ts a).1 ≠ 0) : prsP ts F (f + 1) a ns ys = match asgP ts F a ns with
    | some (.ok r a' ns') => prsP ts F f a' ns' (ys ++ [((tkA ts a).2.1, (r : Int))])
    | some (.bad o) => some (.bad o)
    | none => none := by
  rw [prsP]
  unfold asgP
  rw [if_neg h]
  by_cases h2 : (tkA ts a).1 ≠ 2
  · rw [if_pos h2, if_pos h2]
  · rw [if_neg h2, if_neg h2]
    by_cases h3 : symA ts (a + 1) ≠ ⟨#[61]⟩
    · rw [if_pos h3, if_pos h3]
    · rw [if_neg h3, if_neg h3]
      cases par ts F (.bin true (a + 2) 1 ns) with
      | none => rfl
      | some R =>
        cases R with
        | bad o => rfl
        | ok r a' ns' =>
          simp only
          by_cases h4 : symA ts a' = ⟨#[59]⟩
          · rw [if_pos h4, if_pos h4]
          · rw [if_neg h4, if_neg h4]
theorem asg_good {ts : List Tk} (h : EndsT ts) {F a : Nat} {ns : List Nd} {r a' : Nat} {ns' : List Nd} (ha : a < ts.length) (hp : asgP ts F a ns = some (.ok r a' ns')) : a' < ts.length ∧ a < a' := by
  unfold asgP at hp
  split at hp
  · cases hp
  rename_i h2
  have h2 : (tkA ts a).1 = 2 := by simpa using h2
  have hk := kind_next h ha (by rw [h2]; decide)
  split at hp
  · cases hp
  rename_i h3
  have h3 : symA ts (a + 1) = ⟨#[61]⟩ := by simpa using h3
  have hk2 := sym_next h hk h3 (by decide)
  cases hR : par ts F (.bin true (a + 2) 1 ns) with
  | none => rw [hR] at hp; cases hp
  | some R =>
    rw [hR] at hp
    have hG := par_good h F (.bin true (a + 2) 1 ns) _ hk2 hR
    cases R with
    | bad o => cases hp
    | ok r1 a1 ns1 =>
      have hg := hG _ _ _ rfl
      simp only [atM] at hg
      simp only at hp
      split at hp
      · rename_i h4
        have hk3 := sym_next h hg.1 h4 (by decide)
        injection hp with hp
        injection hp with e1 e2 e3
        omega
      · cases hp
/-- the assignments under way -/
structure AsgS (w : World) (base S : Nat) (NA : Option Addr) (ps : List PN) (BA : Option Addr) (bc : Nat) (ys : List As) : Prop where
  own : w.ownsRow base 33 2 (.slice BA ys.length bc) ys.length (ys.flatMap asg)
  apN : Apart NA BA
  apS : blk BA ≠ some S
  apA : ∀ p ∈ ps, Apart p.1.1 BA
section
variable {w w' : World} {base S : Nat} {A NA NA' BA : Option Addr} {ps ps' : List PN} {c a nc bc : Nat} {ys : List As} {ts : List Tk} {x3 : Value}
theorem AsgS.later (h : AsgS w base S NA ps BA bc ys) (hb : Below w.heap.size w w') : AsgS w' base S NA ps BA bc ys := ⟨own_keep' h.own hb, h.apN, h.apS, h.apA⟩
theorem AsgS.step (h : AsgS w base S NA ps BA bc ys) (ht : Turn (TS S NA) w w') (hn : NewN w NA NA') (hf : FrA w ps ps') : AsgS w' base S NA' ps' BA bc ys where
  own := own_keepN h.own (fun b hb => ht.block (h.own.lt b hb).2 (fun c => by
    rcases c with c | c
    · exact h.apS (by rw [← c]; exact blk_of hb)
    · exact h.apN b c (blk_of hb)))
  apN := fun k hk he => by
    rcases hn with e | ⟨j, e, hj⟩
    · exact h.apN k (by rw [← e]; exact hk) he
    · rw [e] at hk
      injection hk with hk
      have := (h.own.lt k (of_blk he)).2
      omega
  apS := h.apS
  apA := fun p hp k hk he => by
    rcases hf p hp k hk with hge | ⟨p0, hp0, hb0⟩
    · have := (h.own.lt k (of_blk he)).2
      omega
    · exact h.apA p0 hp0 k hb0 he
end
/-- what readAssignment leaves -/
def AsgPost (base S : Nat) (A : Option Addr) (c : Nat) (ts : List Tk) (nm : ByteArray) (ys : List As) (R : PR) (w : World) (e : Ending) (w' : World) : Prop :=
  match R with
  | .bad o => e = .panicked (panicV o) ∧ Below base w w'
  | .ok r a' ns' => e = .returned (.tuple #[]) ∧ Below base w w' ∧ ∃ (NA' : Option Addr) (nc' : Nat) (ps' : List PN) (BA' : Option Addr) (bc' : Nat), ps'.map Prod.snd = ns' ∧ PSq w' base S A c a' ts NA' nc' ps' (.slice BA' (ys ++ [(nm, (r : Int))]).length bc') ∧ AsgS w' base S NA' ps' BA' bc' (ys ++ [(nm, (r : Int))]) ∧ ps'.length ≤ 60
theorem infoAsgQ : (Try.prog.info? 33).map (fun i => (i.zero, i.size, i.bytes)) = some (some (.agg #[.string ⟨#[]⟩, .int .i64 0]), 2, 24) := by kernel_rfl

end

section
open Go.RowKit

theorem QO.row {base : Nat} {w : World} {a : Option Addr × Nat} {xs : List Int} (h : QO base w a xs) : Row I64 w w.heap.size a.1 xs ∧ xs.length ≤ a.2 ∧ a.2 ≤ maxLen := by
  refine ⟨Row.of_own h, ?_⟩
  rcases h.2 with ⟨e, _⟩ | ⟨g, cap, cur, e, _, _, hn, hm, _⟩
  · injection e with _ e1 e2
    omega
  · injection e with _ _ e2
    omega
theorem ng_lenQ (p : PN) : (ng p).length = 4 := rfl
theorem ndg_row {base : Nat} {w : World} {A : Option Addr} {c : Nat} {ps : List PN} (h : NdG (QO base) w base A c ps) : NdRow w w.heap.size A (ps.map Prod.snd) := fun hn => by
  rw [List.length_map] at hn
  have ho := h.1
  rcases ho.2 with ⟨e, _⟩ | ⟨g, cap, cur, e, _, _⟩
  · injection e with _ e1 _
    omega
  · injection e with e _ _
    subst e
    refine ⟨g, 0, rfl, (ho.lt g rfl).2, fun k hk => ?_⟩
    have hk' : k < ps.length := by simpa using hk
    obtain ⟨hr, h1, h2⟩ := (h.2.1 k hk').1.row
    rw [List.getElem_map]
    have hc : ∀ j, j < 4 → w.cell? ⟨g, k * 4 + j, none⟩ = (ng ps[k])[j]? := fun j hj => by
      have := ho.cellAt (k * 4 + j) (by omega)
      rw [this]
      exact flat_get ng_lenQ ps k j hk' hj
    rw [Nat.zero_add]
    exact ⟨(ps[k]).1.1, (ps[k]).1.2, hc 0 (by decide), hc 1 (by decide), hc 2 (by decide), hc 3 (by decide), h1, h2, hr⟩





end

section
open Go.RowKit


end

section
open Go.RowKit

/-- what Parse leaves -/
def ParsePost (s : ByteArray) (w : World) (e : Ending) (w' : World) : Prop :=
  match parseR s with
  | .bad o => e = .returned (.tuple #[pgv none none 0 0 0 0, .int .i64 o]) ∧ Below w.heap.size w w'
  | .done ns ys => Below w.heap.size w w' ∧ ∃ (base : Nat) (NA : Option Addr) (nc : Nat) (ps : List PN) (BA : Option Addr) (bc : Nat), w.heap.size ≤ base ∧ ps.map Prod.snd = ns ∧ e = .returned (.tuple #[pgv NA BA ps.length nc ys.length bc, .int .i64 (-1)]) ∧ ProgG (QO base) w' base NA nc BA bc ps ys ∧ ps.length ≤ 60 ∧ ys.length ≤ 1048576

theorem progG_keep {base : Nat} {w w' : World} {A A' : Option Addr} {c c' : Nat} {ps : List PN} {ys : List As} (h : ProgG (QO base) w base A c A' c' ps ys) (hk : ∀ b, base ≤ b → b < w.heap.size → w'.heap[b]? = w.heap[b]?) : ProgG (QO base) w' base A c A' c' ps ys := by
  obtain ⟨⟨h1, h2, h3⟩, h4, h5, h6⟩ := h
  refine ⟨⟨own_keepN h1 (fun b hb => hk b (h1.lt b hb).1 (h1.lt b hb).2), fun i hi => ⟨qo_keep (h2 i hi).1 (fun b hb => ?_), (h2 i hi).2⟩, h3⟩, own_keepN h4 (fun b hb => hk b (h4.lt b hb).1 (h4.lt b hb).2), h5, h6⟩
  have := (h2 i hi).1.lt b (of_blk hb)
  exact hk b this.1 this.2

end

section
open Go.RowKit

def Ok3 (ns : List Nd) : Prop := ∀ n ∈ ns, n.2.2.2.length ≤ 3
def Ok3R (R : PR) : Prop := ∀ r a' ns', R = .ok r a' ns' → Ok3 ns'
theorem ok3_add {ns : List Nd} (h : Ok3 ns) {n : Nd} (hn : n.2.2.2.length ≤ 3) : Ok3 (ns ++ [n]) := fun x hx => by
  rcases List.mem_append.1 hx with hx | hx
  · exact h x hx
  · rw [List.mem_singleton] at hx
    rw [hx]
    exact hn
theorem ok3_bad (o : Int) : Ok3R (.bad o) := fun r a' ns' e => by cases e
theorem ok3_ok {r a : Nat} {ns : List Nd} (h : Ok3 ns) : Ok3R (.ok r a ns) := fun r' a' ns' e => by
  injection e with e1 e2 e3
  rw [← e3]
  exact h
theorem ok3_emit {ts : List Tk} {a : Nat} {ns : List Nd} {n : Nd} (h : Ok3 ns) (hn : n.2.2.2.length ≤ 3) : Ok3R (emitP ts a ns n) := fun r a' ns' e => by
  obtain ⟨_, _, _, rfl⟩ := emit_ok e
  exact ok3_add h hn
def nsM : PM → List Nd
  | .fac _ _ ns => ns
  | .bin _ _ _ ns => ns
  | .chain _ _ _ _ ns => ns
  | .call _ _ _ _ ns => ns
def arM : PM → Nat
  | .call _ args _ _ _ => args.length
  | _ => 0
theorem par_three {ts : List Tk} : ∀ (f : Nat) (m : PM) (R : PR), Ok3 (nsM m) → arM m ≤ 3 → par ts f m = some R → Ok3R R := by
  intro f
  induction f with
  | zero =>
    intro m R _ _ hp
    cases m <;> simp [par] at hp
  | succ f ih =>
    intro m R hns har hp
    cases m with
    | fac a d ns =>
      have hns : Ok3 ns := hns
      simp only [par] at hp
      split at hp
      · injection hp with hp; subst hp; exact ok3_bad _
      split at hp
      · cases hR : par ts f (.fac (a + 1) (d + 1) ns) with
        | none => rw [hR] at hp; cases hp
        | some R1 =>
          rw [hR] at hp
          have hG := ih (.fac (a + 1) (d + 1) ns) R1 hns (Nat.zero_le _) hR
          cases R1 with
          | bad o => injection hp with hp; subst hp; exact ok3_bad _
          | ok r a' ns' => injection hp with hp; subst hp; exact ok3_emit (hG _ _ _ rfl) (by simp)
      split at hp
      · cases hR : par ts f (.bin true (a + 1) (d + 1) ns) with
        | none => rw [hR] at hp; cases hp
        | some R1 =>
          rw [hR] at hp
          have hG := ih (.bin true (a + 1) (d + 1) ns) R1 hns (Nat.zero_le _) hR
          cases R1 with
          | bad o => injection hp with hp; subst hp; exact ok3_bad _
          | ok r a' ns' =>
            simp only at hp
            split at hp
            · injection hp with hp; subst hp; exact ok3_ok (hG _ _ _ rfl)
            · injection hp with hp; subst hp; exact ok3_bad _
      split at hp
      · injection hp with hp; subst hp; exact ok3_emit hns (by simp)
      split at hp
      · split at hp
        · split at hp
          · injection hp with hp; subst hp; exact ok3_emit hns (by simp)
          · exact ih (.call _ [] _ _ ns) R hns (by simp [arM]) hp
        · injection hp with hp; subst hp; exact ok3_emit hns (by simp)
      · injection hp with hp; subst hp; exact ok3_bad _
    | bin add a d ns =>
      have hns : Ok3 ns := hns
      simp only [par] at hp
      cases hR : par ts f (if add = true then .bin false a d ns else .fac a d ns) with
      | none => rw [hR] at hp; cases hp
      | some R1 =>
        rw [hR] at hp
        have hG := ih _ R1 (by cases add <;> exact hns) (by cases add <;> exact Nat.zero_le _) hR
        cases R1 with
        | bad o => injection hp with hp; subst hp; exact ok3_bad _
        | ok r a' ns' => exact ih (.chain add r a' d ns') R (hG _ _ _ rfl) (Nat.zero_le _) hp
    | chain add l a d ns =>
      have hns : Ok3 ns := hns
      simp only [par] at hp
      split at hp
      · injection hp with hp; subst hp; exact ok3_ok hns
      cases hR : par ts f (if add = true then .bin false (a + 1) d ns else .fac (a + 1) d ns) with
      | none => rw [hR] at hp; cases hp
      | some R1 =>
        rw [hR] at hp
        have hG := ih _ R1 (by cases add <;> exact hns) (by cases add <;> exact Nat.zero_le _) hR
        cases R1 with
        | bad o => injection hp with hp; subst hp; exact ok3_bad _
        | ok r a' ns' =>
          simp only at hp
          have hE := ok3_emit (ts := ts) (a := a') (n := (opP add (symA ts a), ⟨#[]⟩, 0, [(l : Int), (r : Int)])) (hG _ _ _ rfl) (by simp)
          cases hq : emitP ts a' ns' (opP add (symA ts a), ⟨#[]⟩, 0, [(l : Int), (r : Int)]) with
          | bad o => rw [hq] at hp; injection hp with hp; subst hp; exact ok3_bad _
          | ok r2 a2 ns2 =>
            rw [hq] at hp hE
            exact ih (.chain add r2 a2 d ns2) R (hE _ _ _ rfl) (Nat.zero_le _) hp
    | call nm args a d ns =>
      have hns : Ok3 ns := hns
      have har : args.length ≤ 3 := har
      simp only [par] at hp
      split at hp
      · injection hp with hp; subst hp; exact ok3_bad _
      rename_i h3
      cases hR : par ts f (.bin true a d ns) with
      | none => rw [hR] at hp; cases hp
      | some R1 =>
        rw [hR] at hp
        have hG := ih (.bin true a d ns) R1 hns (Nat.zero_le _) hR
        cases R1 with
        | bad o => injection hp with hp; subst hp; exact ok3_bad _
        | ok r a' ns' =>
          simp only at hp
          split at hp
          · exact ih (.call nm (args ++ [(r : Int)]) (a' + 1) d ns') R (hG _ _ _ rfl) (by simp only [arM, List.length_append, List.length_singleton]; omega) hp
          split at hp
          · injection hp with hp; subst hp; exact ok3_emit (hG _ _ _ rfl) (by simp only [List.length_append, List.length_singleton]; omega)
          · injection hp with hp; subst hp; exact ok3_bad _
theorem prs_three {ts : List Tk} {F : Nat} : ∀ (f a : Nat) (ns : List Nd) (ys : List As) (R : PA), Ok3 ns → prsP ts F f a ns ys = some R → ∀ ns' ys', R = .done ns' ys' → Ok3 ns' := by
  intro f
  induction f with
  | zero => intro a ns ys R _ hp; simp [prsP] at hp
  | succ f ih =>
    intro a ns ys R hns hp ns' ys' e
    unfold prsP at hp
    split at hp
    · injection hp with hp
      rw [← hp] at e
      injection e with e1 e2
      rw [← e1]
      exact hns
    split at hp
    · injection hp with hp; rw [← hp] at e; cases e
    split at hp
    · injection hp with hp; rw [← hp] at e; cases e
    cases hR : par ts F (.bin true (a + 2) 1 ns) with
    | none => rw [hR] at hp; cases hp
    | some R1 =>
      rw [hR] at hp
      have hG := par_three F (.bin true (a + 2) 1 ns) R1 hns (Nat.zero_le _) hR
      cases R1 with
      | bad o => injection hp with hp; rw [← hp] at e; cases e
      | ok r a' ns2 =>
        simp only at hp
        split at hp
        · exact ih _ _ _ _ (hG _ _ _ rfl) hp ns' ys' e
        · injection hp with hp; rw [← hp] at e; cases e
theorem parse_three (s : ByteArray) {ns : List Nd} {ys : List As} (h : parseR s = .done ns ys) : Ok3 ns := by
  unfold parseR at h
  split at h
  · cases hp : prsP (tokP s).1 (4 * (tokP s).1.length + 4) ((tokP s).1.length + 1) 0 [] [] with
    | none => rw [hp] at h; cases h
    | some R =>
      rw [hp] at h
      exact prs_three _ _ _ _ _ (fun n hn => by cases hn) hp ns ys h
  · cases h
theorem off_three (ps : List PN) (h : Ok3 (ps.map Prod.snd)) : offN ps ps.length ≤ 6 * ps.length := by
  unfold offN
  rw [List.take_length]
  induction ps with
  | nil => simp
  | cons p ps ih =>
    have h1 := h p.2 (by simp)
    have h2 := ih (fun n hn => h n (by simp only [List.map_cons, List.mem_cons]; exact .inr hn))
    simp only [List.map_cons, List.sum_cons, List.length_cons]
    omega
theorem progG_base {base base' : Nat} {w : World} {A A' : Option Addr} {c c' : Nat} {ps : List PN} {ys : List As} (h : ProgG (QO base) w base A c A' c' ps ys) (hb : base' ≤ base) : ProgG (QO base') w base' A c A' c' ps ys := by
  obtain ⟨⟨h1, h2, h3⟩, h4, h5, h6⟩ := h
  exact ⟨⟨own_base h1 hb, fun i hi => ⟨own_base (h2 i hi).1 hb, (h2 i hi).2⟩, h3⟩, own_base h4 hb, h5, h6⟩
/-- what Parse answers: a program of its own, and a number -/
def ParOut (ns : List Nd) (ys : List As) (o : Int) (w : World) (e : Ending) (w' : World) : Prop :=
  ∃ (NA : Option Addr) (nc : Nat) (ps : List PN) (BA : Option Addr) (bc : Nat), ps.map Prod.snd = ns ∧ e = .returned (.tuple #[pgv NA BA ps.length nc ys.length bc, .int .i64 o]) ∧ ProgG (QO w.heap.size) w' w.heap.size NA nc BA bc ps ys ∧ Below w.heap.size w w'
theorem par_out (s : ByteArray) : ∃ (ns : List Nd) (ys : List As) (o : Int), Ok3 ns ∧ ns.length ≤ 60 ∧ ys.length ≤ 1048576 ∧ ∀ w e w', ParsePost s w e w' → ParOut ns ys o w e w' := by
  cases hR : parseR s with
  | bad o =>
    refine ⟨[], [], o, (fun n hn => by cases hn), by simp, by simp, fun w e w' h => ?_⟩
    unfold ParsePost at h
    rw [hR] at h
    obtain ⟨rfl, hb⟩ := h
    exact ⟨none, 0, [], none, 0, rfl, rfl, ⟨⟨World.ownsRow_nil _ _ _ _, (fun i hi => by simp at hi), (fun i j hi => by simp at hi)⟩, World.ownsRow_nil _ _ _ _, (fun k h => by cases h), (fun i hi => by simp at hi)⟩, hb⟩
  | done ns ys =>
    by_cases hB : ns.length ≤ 60 ∧ ys.length ≤ 1048576
    · refine ⟨ns, ys, -1, parse_three s hR, hB.1, hB.2, fun w e w' h => ?_⟩
      unfold ParsePost at h
      rw [hR] at h
      obtain ⟨hb, base, NA, nc, ps, BA, bc, h1, h2, h3, h4, _, _⟩ := h
      exact ⟨NA, nc, ps, BA, bc, h2, h3, progG_base h4 h1, hb⟩
    · refine ⟨[], [], 0, (fun n hn => by cases hn), by simp, by simp, fun w e w' h => ?_⟩
      unfold ParsePost at h
      rw [hR] at h
      obtain ⟨hb, base, NA, nc, ps, BA, bc, h1, h2, h3, h4, h5, h6⟩ := h
      exact absurd ⟨by rw [← h2, List.length_map]; exact h5, h6⟩ hB
theorem ProgG.read {w : World} {base : Nat} {NA BA : Option Addr} {nc bc : Nat} {ps : List PN} {ys : List As} (h : ProgG (QO base) w base NA nc BA bc ps ys) : ProgIn w w.heap.size NA BA (ps.map Prod.snd) ys := ⟨ndg_row h.1, RowC.of_own asg_len h.2.1 rfl⟩
theorem ProgG.lt {w : World} {base : Nat} {NA BA : Option Addr} {nc bc : Nat} {ps : List PN} {ys : List As} (h : ProgG (QO base) w base NA nc BA bc ps ys) {b : Nat} (hb : SP NA BA ps b) : base ≤ b ∧ b < w.heap.size := by
  rcases hb with (hb | ⟨p, hp, hb⟩) | hb
  · exact h.1.1.lt b (of_blk hb)
  · obtain ⟨i, hi, rfl⟩ := List.getElem_of_mem hp
    exact (h.1.2.1 i hi).1.lt b (of_blk hb)
  · exact h.2.1.lt b (of_blk hb)

end
end Go.Proofs.Ytlcnjiephbhdaaa
