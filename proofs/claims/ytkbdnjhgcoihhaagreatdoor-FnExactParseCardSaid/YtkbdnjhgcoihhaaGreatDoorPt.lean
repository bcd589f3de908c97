/- The model's parser: operators and factors. -/
import Derived.Test.YtkbdnjhgcoihhaaGreatDoorProg
import Derived.Test.YtkbdnjhgcoihhaaGreatDoorInts
import Derived.Test.YtkbdnjhgcoihhaaGreatDoorVbox
import Derived.Test.YtkbdnjhgcoihhaaGreatDoorHeld
import Derived.Test.YtkbdnjhgcoihhaaGreatDoorMem
import Derived.Test.YtkbdnjhgcoihhaaGreatDoorFlat
import Derived.Test.YtkbdnjhgcoihhaaGreatDoorRowC
import Derived.Test.YtkbdnjhgcoihhaaGreatDoorKS
import Derived.Test.YtkbdnjhgcoihhaaGreatDoorStrS
import Derived.Test.YtkbdnjhgcoihhaaGreatDoorIntS
import Derived.Test.YtkbdnjhgcoihhaaGreatDoorSS
import Derived.Test.YtkbdnjhgcoihhaaGreatDoorTok
import Derived.Test.YtkbdnjhgcoihhaaGreatDoorPg
import Derived.Test.YtkbdnjhgcoihhaaGreatDoorPh
import Derived.Test.YtkbdnjhgcoihhaaGreatDoorPi
import Derived.Test.YtkbdnjhgcoihhaaGreatDoorPk
import Derived.Test.YtkbdnjhgcoihhaaGreatDoorPl
import Derived.Test.YtkbdnjhgcoihhaaGreatDoorPp
import Derived.Test.YtkbdnjhgcoihhaaGreatDoorPq
import Derived.Test.YtkbdnjhgcoihhaaGreatDoorPr
import Derived.Test.YtkbdnjhgcoihhaaGreatDoorPs
import Derived.WalkKit
import Derived.WalkSpells
import Derived.WalkLawsBesides
import Derived.Lib.Hide
import Derived.Deep.RegionHeld3
import Derived.Deep.QuietTactic
import Derived.BigQuiet
import Derived.Handy
import Derived.Deep.DeepCutAuto
import Derived.Deep.AppendLies
import Derived.Deep.RegionLaw
namespace Go.Proofs.YtkbdnjhgcoihhaaGreatDoor
open Go.RowKit

theorem str_is (x : ByteArray) (b : UInt8) : (x.toList == [b]) = decide (x = ⟨#[b]⟩) := by
  have h := str_beqQ x ⟨#[b]⟩
  rw [show (⟨#[b]⟩ : ByteArray).toList = [b] by rw [ByteArray.toList_eq]] at h
  exact h

set_option maxHeartbeats 4000000 in
theorem sOp_any (x : ByteArray) (add : Bool) (w : World) :
    Calls Tryz.prog 41 #[.string x, .bool add] w fun e w' => e = .returned (.int .i64 (opP add x)) ∧ w' = w := by
  cases add
  · by_cases h1 : x = ⟨#[42]⟩
    · have b1 : (x.toList == [42]) = true := by rw [str_is]; exact decide_eq_true h1
      have hv : opP false x = 6 := by unfold opP; simp [h1]
      rw [hv]
      clear hv h1
      go_enter Tryz.func41, Tryz.ntmps41
      go_wp2
      go_ret
      exact ⟨rfl, rfl⟩
    · have b1 : (x.toList == [42]) = false := by rw [str_is]; exact decide_eq_false h1
      by_cases h2 : x = ⟨#[47]⟩
      · have b2 : (x.toList == [47]) = true := by rw [str_is]; exact decide_eq_true h2
        have hv : opP false x = 7 := by unfold opP; simp [h2]
        rw [hv]
        clear hv h1 h2
        go_enter Tryz.func41, Tryz.ntmps41
        go_wp2
        go_ret
        exact ⟨rfl, rfl⟩
      · have b2 : (x.toList == [47]) = false := by rw [str_is]; exact decide_eq_false h2
        have hv : opP false x = 0 := by unfold opP; simp [h1, h2]
        rw [hv]
        clear hv h1 h2
        go_enter Tryz.func41, Tryz.ntmps41
        go_wp2
        go_ret
        exact ⟨rfl, rfl⟩
  · by_cases h1 : x = ⟨#[43]⟩
    · have b1 : (x.toList == [43]) = true := by rw [str_is]; exact decide_eq_true h1
      have hv : opP true x = 4 := by unfold opP; simp [h1]
      rw [hv]
      clear hv h1
      go_enter Tryz.func41, Tryz.ntmps41
      go_wp2
      go_ret
      exact ⟨rfl, rfl⟩
    · have b1 : (x.toList == [43]) = false := by rw [str_is]; exact decide_eq_false h1
      by_cases h2 : x = ⟨#[45]⟩
      · have b2 : (x.toList == [45]) = true := by rw [str_is]; exact decide_eq_true h2
        have hv : opP true x = 5 := by unfold opP; simp [h2]
        rw [hv]
        clear hv h1 h2
        go_enter Tryz.func41, Tryz.ntmps41
        go_wp2
        go_ret
        exact ⟨rfl, rfl⟩
      · have b2 : (x.toList == [45]) = false := by rw [str_is]; exact decide_eq_false h2
        have hv : opP true x = 0 := by unfold opP; simp [h1, h2]
        rw [hv]
        clear hv h1 h2
        go_enter Tryz.func41, Tryz.ntmps41
        go_wp2
        go_ret
        exact ⟨rfl, rfl⟩

/-- what holds of the tokens all along -/
structure TsOk (ts : List Tk) : Prop where
  ends : EndsT ts
  len : ts.length ≤ 1099511627776
  off : ∀ a, 0 ≤ offA ts a

def FacC (f : Nat) : Prop := ∀ (w : World) (base S c a d nc : Nat) (A NA : Option Addr) (ts : List Tk) (ps : List PN) (x3 : Value) (R : PR), TsOk ts → PSt w base S A c a ts NA nc ps x3 → ps.length ≤ 60 → a < ts.length → d ≤ 65 → par ts f (.fac a d (ps.map Prod.snd)) = some R →
  Calls Tryz.prog 53 #[.pointer (some ⟨S, 0, none⟩), .int .i64 (d : Nat)] w (PPost base S A c ts NA ps x3 R w)

def BinC (f : Nat) : Prop := ∀ (w : World) (base S c a d nc : Nat) (A NA : Option Addr) (ts : List Tk) (ps : List PN) (x3 : Value) (add : Bool) (R : PR), TsOk ts → PSt w base S A c a ts NA nc ps x3 → ps.length ≤ 60 → a < ts.length → d ≤ 65 → par ts f (.bin add a d (ps.map Prod.snd)) = some R →
  Calls Tryz.prog 25 #[.pointer (some ⟨S, 0, none⟩), .int .i64 (d : Nat), .bool add] w (PPost base S A c ts NA ps x3 R w)

def CallC (f : Nat) : Prop := ∀ (w : World) (base S c a d nc : Nat) (A NA : Option Addr) (ts : List Tk) (ps : List PN) (x3 : Value) (nm : ByteArray) (R : PR), TsOk ts → PSt w base S A c a ts NA nc ps x3 → ps.length ≤ 60 → a < ts.length → d ≤ 65 → (if symA ts a = ⟨#[41]⟩ then some (emitP ts (a + 1) (ps.map Prod.snd) (8, nm, 0, [])) else par ts f (.call nm [] a d (ps.map Prod.snd))) = some R →
  Calls Tryz.prog 68 #[.pointer (some ⟨S, 0, none⟩), .string nm, .int .i64 (d : Nat)] w (PPost base S A c ts NA ps x3 R w)

theorem sExpr_any {f : Nat} (ih : BinC f) (w : World) (base S c a d nc : Nat) (A NA : Option Addr) (ts : List Tk) (ps : List PN) (x3 : Value) (R : PR) (hT : TsOk ts) (h : PSt w base S A c a ts NA nc ps x3) (hn : ps.length ≤ 60) (ha : a < ts.length) (hd : d ≤ 65) (hp : par ts f (.bin true a d (ps.map Prod.snd)) = some R) :
    Calls Tryz.prog 12 #[.pointer (some ⟨S, 0, none⟩), .int .i64 (d : Nat)] w (PPost base S A c ts NA ps x3 R w) := by
  have hc := ih w base S c a d nc A NA ts ps x3 true R hT h hn ha hd hp
  clear h hp
  go_enter Tryz.func12, Tryz.ntmps12
  go_wp2_with fail
  refine hc.mono ?_
  rintro e w1 h1
  cases R with
  | bad o =>
    obtain ⟨⟨v, rfl⟩, h1⟩ := h1
    go_wp2_with fail
    go_ret
    exact ⟨⟨v, rfl⟩, h1⟩
  | ok r a' ns' =>
    obtain ⟨rfl, h1⟩ := h1
    go_wp2_with fail
    go_ret
    exact ⟨rfl, h1⟩

theorem sOperand_any {f : Nat} (ihf : FacC f) (ihb : BinC f) (w : World) (base S c a d nc : Nat) (A NA : Option Addr) (ts : List Tk) (ps : List PN) (x3 : Value) (add : Bool) (R : PR) (hT : TsOk ts) (h : PSt w base S A c a ts NA nc ps x3) (hn : ps.length ≤ 60) (ha : a < ts.length) (hd : d ≤ 65) (hp : par ts f (if add = true then .bin false a d (ps.map Prod.snd) else .fac a d (ps.map Prod.snd)) = some R) :
    Calls Tryz.prog 40 #[.pointer (some ⟨S, 0, none⟩), .int .i64 (d : Nat), .bool add] w (PPost base S A c ts NA ps x3 R w) := by
  cases add with
  | false =>
    have hc := ihf w base S c a d nc A NA ts ps x3 R hT h hn ha hd hp
    clear h hp
    go_enter Tryz.func40, Tryz.ntmps40
    go_wp2_with fail
    refine hc.mono ?_
    rintro e w1 h1
    cases R with
    | bad o =>
      obtain ⟨⟨v, rfl⟩, h1⟩ := h1
      go_wp2_with fail
      go_ret
      exact ⟨⟨v, rfl⟩, h1⟩
    | ok r a' ns' =>
      obtain ⟨rfl, h1⟩ := h1
      go_wp2_with fail
      go_ret
      exact ⟨rfl, h1⟩
  | true =>
    have hc := ihb w base S c a d nc A NA ts ps x3 false R hT h hn ha hd hp
    clear h hp
    go_enter Tryz.func40, Tryz.ntmps40
    go_wp2_with fail
    refine hc.mono ?_
    rintro e w1 h1
    cases R with
    | bad o =>
      obtain ⟨⟨v, rfl⟩, h1⟩ := h1
      go_wp2_with fail
      go_ret
      exact ⟨⟨v, rfl⟩, h1⟩
    | ok r a' ns' =>
      obtain ⟨rfl, h1⟩ := h1
      go_wp2_with fail
      go_ret
      exact ⟨rfl, h1⟩
end Go.Proofs.YtkbdnjhgcoihhaaGreatDoor
