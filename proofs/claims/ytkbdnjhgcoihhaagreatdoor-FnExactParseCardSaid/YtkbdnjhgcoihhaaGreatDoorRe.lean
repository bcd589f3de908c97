/- The program's parser: chains of operands. -/
import Derived.Test.YtkbdnjhgcoihhaaGreatDoorProg
import Derived.Test.YtkbdnjhgcoihhaaGreatDoorInts
import Derived.Test.YtkbdnjhgcoihhaaGreatDoorVbox
import Derived.Test.YtkbdnjhgcoihhaaGreatDoorHeld
import Derived.Test.YtkbdnjhgcoihhaaGreatDoorMem
import Derived.Test.YtkbdnjhgcoihhaaGreatDoorFlat
import Derived.Test.YtkbdnjhgcoihhaaGreatDoorRowC
import Derived.Test.YtkbdnjhgcoihhaaGreatDoorKS
import Derived.Test.YtkbdnjhgcoihhaaGreatDoorStrS
import Derived.Test.YtkbdnjhgcoihhaaGreatDoorIntS
import Derived.Test.YtkbdnjhgcoihhaaGreatDoorSS
import Derived.Test.YtkbdnjhgcoihhaaGreatDoorTok
import Derived.Test.YtkbdnjhgcoihhaaGreatDoorPg
import Derived.Test.YtkbdnjhgcoihhaaGreatDoorPh
import Derived.Test.YtkbdnjhgcoihhaaGreatDoorPi
import Derived.Test.YtkbdnjhgcoihhaaGreatDoorPk
import Derived.Test.YtkbdnjhgcoihhaaGreatDoorPl
import Derived.Test.YtkbdnjhgcoihhaaGreatDoorPp
import Derived.Test.YtkbdnjhgcoihhaaGreatDoorPq
import Derived.Test.YtkbdnjhgcoihhaaGreatDoorPr
import Derived.Test.YtkbdnjhgcoihhaaGreatDoorPs
import Derived.Test.YtkbdnjhgcoihhaaGreatDoorPt
import Derived.Test.YtkbdnjhgcoihhaaGreatDoorPu
import Derived.Test.YtkbdnjhgcoihhaaGreatDoorPv
import Derived.Test.YtkbdnjhgcoihhaaGreatDoorPw
import Derived.Test.YtkbdnjhgcoihhaaGreatDoorTp
import Derived.Test.YtkbdnjhgcoihhaaGreatDoorShelf
import Derived.Test.YtkbdnjhgcoihhaaGreatDoorRa
import Derived.Test.YtkbdnjhgcoihhaaGreatDoorRb
import Derived.Test.YtkbdnjhgcoihhaaGreatDoorRc
import Derived.Test.YtkbdnjhgcoihhaaGreatDoorRd
import Derived.WalkKit
import Derived.WalkSpells
import Derived.WalkLawsBesides
import Derived.Lib.Hide
import Derived.Deep.RegionHeld3
import Derived.Deep.QuietTactic
import Derived.BigQuiet
import Derived.Handy
import Derived.Deep.DeepCutAuto
namespace Go.Proofs.YtkbdnjhgcoihhaaGreatDoor
open Go.RowKit

/-- the tokens as the lexer leaves them -/
structure TsG (ts : List Tk) : Prop where
  ok : TsOk ts
  form : ∀ a, a < ts.length → TkForm (tkA ts a)
def wantB (add : Bool) : List UInt8 := if add = true then [43, 45] else [42, 47]
/-- what is left of a chain -/
def leftQ (S n : Nat) (w : World) : Nat :=
  match w.cell? ⟨S, 1, none⟩ with
  | some (.int _ q) => n + 1 - q.toNat
  | _ => 0
theorem leftQ_good {w : World} {base S : Nat} {A : Option Addr} {c a : Nat} {ts : List Tk} {NA : Option Addr} {nc : Nat} {ps : List PN} {x3 : Value} (h : PSq w base S A c a ts NA nc ps x3) : leftQ S ts.length w = ts.length + 1 - a := by
  unfold leftQ
  rw [h.box.c 1]
  simp
theorem PSq.rows {w : World} {base S : Nat} {A : Option Addr} {c a : Nat} {ts : List Tk} {NA : Option Addr} {nc : Nat} {ps : List PN} {x3 : Value} (h : PSq w base S A c a ts NA nc ps x3) : RowC 4 tkg w w.heap.size A ts := h.toks.more (Nat.le_of_lt (Nat.lt_of_le_of_lt h.low h.lt))
theorem PSq.baseLe {w : World} {base S : Nat} {A : Option Addr} {c a : Nat} {ts : List Tk} {NA : Option Addr} {nc : Nat} {ps : List PN} {x3 : Value} (h : PSq w base S A c a ts NA nc ps x3) : base ≤ w.heap.size := Nat.le_of_lt (Nat.lt_of_le_of_lt h.low h.lt)

def FacQ (f : Nat) : Prop := ∀ (w : World) (base S c a d nc : Nat) (A NA : Option Addr) (ts : List Tk) (ps : List PN) (x3 : Value) (R : PR), TsG ts → PSq w base S A c a ts NA nc ps x3 → ps.length ≤ 60 → a < ts.length → d ≤ 65 → par ts f (.fac a d (ps.map Prod.snd)) = some R →
  Calls Tryz.prog 67 #[.pointer (some ⟨S, 0, none⟩), .int .i64 (d : Nat)] w (PQost base S A c ts NA ps x3 R w)

def TermC (f : Nat) : Prop := ∀ (w : World) (base S c a d nc : Nat) (A NA : Option Addr) (ts : List Tk) (ps : List PN) (x3 : Value) (R : PR), TsG ts → PSq w base S A c a ts NA nc ps x3 → ps.length ≤ 60 → a < ts.length → d ≤ 65 → par ts f (.bin false a d (ps.map Prod.snd)) = some R →
  Calls Tryz.prog 51 #[.pointer (some ⟨S, 0, none⟩), .int .i64 (d : Nat)] w (PQost base S A c ts NA ps x3 R w)

def ExprC (f : Nat) : Prop := ∀ (w : World) (base S c a d nc : Nat) (A NA : Option Addr) (ts : List Tk) (ps : List PN) (x3 : Value) (R : PR), TsG ts → PSq w base S A c a ts NA nc ps x3 → ps.length ≤ 60 → a < ts.length → d ≤ 65 → par ts f (.bin true a d (ps.map Prod.snd)) = some R →
  Calls Tryz.prog 31 #[.pointer (some ⟨S, 0, none⟩), .int .i64 (d : Nat)] w (PQost base S A c ts NA ps x3 R w)

def OpsT (f : Nat) : Prop := ∀ (w : World) (base S c a d nc : Nat) (A NA : Option Addr) (ts : List Tk) (ps : List PN) (x3 : Value) (R : PR), TsG ts → PSq w base S A c a ts NA nc ps x3 → ps.length ≤ 60 → a < ts.length → d ≤ 65 → par ts f (.bin true a d (ps.map Prod.snd)) = some R →
  Calls Tryz.prog 50 #[.pointer (some ⟨S, 0, none⟩), .string ⟨#[43, 45]⟩, .func (.func 51) #[.pointer (some ⟨S, 0, none⟩)] #[], .int .i64 (d : Nat)] w (PQost base S A c ts NA ps x3 R w)

def OpsF (f : Nat) : Prop := ∀ (w : World) (base S c a d nc : Nat) (A NA : Option Addr) (ts : List Tk) (ps : List PN) (x3 : Value) (R : PR), TsG ts → PSq w base S A c a ts NA nc ps x3 → ps.length ≤ 60 → a < ts.length → d ≤ 65 → par ts f (.bin false a d (ps.map Prod.snd)) = some R →
  Calls Tryz.prog 50 #[.pointer (some ⟨S, 0, none⟩), .string ⟨#[42, 47]⟩, .func (.func 67) #[.pointer (some ⟨S, 0, none⟩)] #[], .int .i64 (d : Nat)] w (PQost base S A c ts NA ps x3 R w)

set_option maxRecDepth 100000 in
set_option maxHeartbeats 8000000 in
theorem opsT_any {f : Nat} (ih : ∀ g, g ≤ f → TermC g) : OpsT (f + 1) := by
  intro w base S c a d nc A NA ts ps x3 R hT h hn ha hd hp
  simp only [par, if_true] at hp
  have IH := Lib.hid ih
  have HTS := Lib.hid hT
  have H0 := Lib.hid h
  clear ih hT
  have hR1 : ∃ R1, par ts f (.bin false a d (ps.map Prod.snd)) = some R1 := by
    cases e : par ts f (.bin false a d (ps.map Prod.snd)) with
    | none => rw [e] at hp; cases hp
    | some R1 => exact ⟨R1, rfl⟩
  obtain ⟨R1, hR1⟩ := hR1
  rw [hR1] at hp
  have HGD := Lib.hid (par_good HTS.out.ok.ends f (.bin false a d (ps.map Prod.snd)) _ ha hR1)
  have HCL := Lib.hid (IH.out f (Nat.le_refl _) w base S c a d nc A NA ts ps x3 R1 HTS.out h hn ha hd hR1)
  have HP := Lib.hid hp
  clear hp h hR1
  go_enter Tryz.func50, Tryz.ntmps50
  go_wp2_with fail
  refine HCL.out.mono ?_
  rintro e w1 hpp
  cases R1 with
  | bad o1 =>
    obtain ⟨rfl, hb⟩ := hpp
    have hp2 := HP.out
    injection hp2 with hp2
    subst hp2
    exact ⟨rfl, rfl, hb⟩
  | ok r1 a1 ns1 =>
    obtain ⟨rfl, NA1, nc1, ps1, hps1, hst1, ht1, hn1, hl1, hf1⟩ := hpp
    subst hps1
    have hg1 := (HGD.out _ _ _ rfl).1
    have HP1 : Hid (par ts f (.chain true r1 a1 d (ps1.map Prod.snd)) = some R) := Lib.hid HP.out
    have HST1 := Lib.hid hst1
    have HT1 := Lib.hid ht1
    have HN1 := Lib.hid hn1
    have HF1 := Lib.hid hf1
    clear hst1 ht1 hn1 hf1 HCL HGD HP
    go_wp2_with fail
    go_loopw [9] (fun v wr => ∃ (f' l a : Nat) (NA' : Option Addr) (nc' : Nat) (ps' : List PN), f' ≤ f ∧ v = .int .i64 l ∧ par ts f' (.chain true l a d (ps'.map Prod.snd)) = some R ∧ PSq wr base S A c a ts NA' nc' ps' x3 ∧ Turn (TS S NA) w wr ∧ NewN w NA NA' ∧ ps'.length ≤ 60 ∧ a < ts.length ∧ FrA w ps ps') (fun _ wr => leftQ S ts.length wr)
    case atStart => exact ⟨f, r1, a1, NA1, nc1, ps1, Nat.le_refl _, rfl, HP1.out, HST1.out, HT1.out, HN1.out, hl1, hg1, HF1.out⟩
    case round =>
      clear HST1 HT1 HN1 HF1 HP1 hl1 hg1
      obtain ⟨f', l, a', NA', nc', ps', hf, rfl, hpc, hst, ht, hnw, hl, ha', hfr⟩ := hrel
      cases f' with
      | zero => simp [par] at hpc
      | succ f' =>
      simp only [par, if_true] at hpc
      have hse := sees_any [43, 45] S c a' A ts (.slice NA' ps'.length nc') x3 wr hst.box hst.rows ha' hst.lt (by simp) (by simp) (by decide) (HTS.out.form a' ha')
      have hop := op_see true ts a'
      rw [if_pos rfl] at hop
      have hidx := op_index (add := true) (ts := ts) (a := a')
      obtain ⟨q, hq⟩ : ∃ q, q = opP true (symA ts a') := ⟨_, rfl⟩
      rw [← hq] at hpc hop hidx
      obtain ⟨sb, hsb⟩ : ∃ sb, sb = seeB [43, 45] ts a' := ⟨_, rfl⟩
      rw [← hsb] at hse hop
      have HSE := Lib.hid hse
      have HST := Lib.hid hst
      have HT := Lib.hid ht
      have HNW := Lib.hid hnw
      have HFR := Lib.hid hfr
      have HPC := Lib.hid hpc
      have HOP := Lib.hid hop
      have HQ := Lib.hid hq
      have HIX := Lib.hid hidx
      clear hse hst ht hnw hfr hpc hop hq hsb hidx
      cases sb with
      | false =>
        have hq0 : q = 0 := HOP.out.2 rfl
        have hpc := HPC.out
        rw [if_pos hq0] at hpc
        injection hpc with hpc
        subst hpc
        clear hq0
        go_wp2_with fail
        refine HSE.out.mono ?_
        rintro e w2 ⟨rfl, hb2⟩
        have HZ : Hid (PQost base S A c ts NA ps x3 (.ok l a' (ps'.map Prod.snd)) w (.returned (.int .i64 l)) w2) := Lib.hid ⟨rfl, NA', nc', ps', rfl, HST.out.later hb2, HT.out.trans (Turn.of_later hb2), HNW.out, hl, HFR.out⟩
        clear hb2 HSE HST HT HNW HFR HPC HOP HQ HIX
        go_wp2_with fail
        go_ret
        exact HZ.out
      | true =>
        have hq0 : ¬ q = 0 := fun e => by have := HOP.out.1 e; cases this
        have hpc := HPC.out
        rw [if_neg hq0] at hpc
        obtain ⟨by', hby, hqv⟩ := HIX.out hq0
        have h1 := op_next HTS.out.ok.ends ha' (show opP true (symA ts a') ≠ 0 by rw [← HQ.out]; exact hq0)
        have hR2 : ∃ R2, par ts f' (.bin false (a' + 1) d (ps'.map Prod.snd)) = some R2 := by
          cases e : par ts f' (.bin false (a' + 1) d (ps'.map Prod.snd)) with
          | none => rw [e] at hpc; cases hpc
          | some R2 => exact ⟨R2, rfl⟩
        obtain ⟨R2, hR2⟩ := hR2
        rw [hR2] at hpc
        have HGD := Lib.hid (par_good HTS.out.ok.ends f' (.bin false (a' + 1) d (ps'.map Prod.snd)) _ h1 hR2)
        have HR2 := Lib.hid hR2
        have HPC2 := Lib.hid hpc
        have HH1 := Lib.hid h1
        clear hpc hR2 hq0 HOP HIX HPC
        go_wp2_with fail
        refine HSE.out.mono ?_
        rintro e w2 ⟨rfl, hb2⟩
        have hst2 := HST.out.later hb2
        have hrd := read_any S c a' A ts (.slice NA' ps'.length nc') x3 w2 hst2.box hst2.rows ha' hst2.lt HTS.out.ok.len
        obtain ⟨v, hv⟩ : ∃ v, v = tkA ts a' := ⟨_, rfl⟩
        rw [← hv] at hrd hby
        obtain ⟨v0, v1, v2, v3⟩ := v
        dsimp only [tkv, tok] at hrd hby
        subst hby
        have hfl := fun w => tok_fld1 v0 v2 v3 ⟨#[by']⟩ w
        have HST2 := Lib.hid hst2
        have HT2 := Lib.hid (HT.out.trans (Turn.of_later hb2))
        have HRD := Lib.hid hrd
        clear hb2 hst2 hrd hv HSE HT
        go_wp2_with fail
        refine HRD.out.mono ?_
        rintro e w3 ⟨rfl, ht3, hm3⟩
        have hst3 := HST2.out.turned (a' := a' + 1) ht3 hm3
        have HST3 := Lib.hid hst3
        have HT3 := Lib.hid (turn_chain HT2.out HNW.out (ht3.mono fun k e => .inl e))
        clear ht3 hm3 HST2 HT2 HRD
        have HIDX := Lib.hid (Tryz.strings_Index_one ⟨#[43, 45, 42, 47]⟩ by' w3)
        have hib : -1 ≤ Lib.indexByte [43, 45, 42, 47] by' := Lib.indexByte_ge _ _
        have hqb : q ≤ 7 := by
          rw [HQ.out]
          unfold opP
          split <;> split <;> (try split) <;> decide
        obtain ⟨ix, hix⟩ : ∃ ix, ix = Lib.indexByte [43, 45, 42, 47] by' := ⟨_, rfl⟩
        rw [show (⟨#[43, 45, 42, 47]⟩ : ByteArray).data.toList = [43, 45, 42, 47] from rfl, ← hix] at HIDX
        rw [← hix] at hqv hib
        have HQV := Lib.hid hqv
        have hix2 : ix ≤ 3 := by omega
        have HCL := Lib.hid (IH.out f' (by omega) w3 base S c (a' + 1) d nc' A NA' ts ps' x3 R2 HTS.out hst3 hl HH1.out hd HR2.out)
        clear hst3 hix hqv hqb
        go_wp2_with fail
        refine HIDX.out.mono ?_
        rintro e w4 ⟨rfl, rfl⟩
        clear HIDX
        go_wp2_with fail
        refine HCL.out.mono ?_
        rintro e w5 hpp
        clear HCL hfl
        cases R2 with
        | bad o1 =>
          obtain ⟨rfl, hb⟩ := hpp
          have hp2 := HPC2.out
          injection hp2 with hp2
          subst hp2
          exact ⟨rfl, rfl, (H0.out.under HT3.out).trans hb⟩
        | ok r2 a2 ns2 =>
          obtain ⟨rfl, NA2, nc2, ps2, hps2, hst5, ht5, hn5, hl5, hf5⟩ := hpp
          subst hps2
          have hg := HGD.out _ _ _ rfl
          simp only [atM] at hg
          obtain ⟨a3, rfl⟩ : ∃ a3, a2 = a3 + 1 := ⟨a2 - 1, by omega⟩
          have hlit := hst5.lit [(l : Int), (r2 : Int)] #[.int .i64 l, .int .i64 r2] rfl (by unfold maxLen; simp)
          have hem := add_any ((some ⟨w5.heap.size, 0, none⟩, 2), (q, ⟨#[]⟩, 0, [(l : Int), (r2 : Int)])) _ hlit.1 (by omega) HTS.out.ok.len hl5 hlit.2.1 hlit.2.2.1 hlit.2.2.2.1 hlit.2.2.2.2
          rw [HQV.out] at hem
          have hn6 : NewN w NA NA2 := newN_trans HT3.out.size HNW.out hn5
          have hT6 : Turn (TS S NA) w (w5.alloc (.cells #[.int .i64 l, .int .i64 r2] 3)) := (turn_chain HT3.out HNW.out ht5).trans (Turn.of_later (by go_grown))
          have hfq : FrA w ps (ps2 ++ [((some ⟨w5.heap.size, 0, none⟩, 2), (4 + ix, ⟨#[]⟩, 0, [(l : Int), (r2 : Int)]))]) := (FrA.trans HFR.out HT3.out.size hf5).add (fun b hb => by
            have e : w5.heap.size = b := by injection hb
            rw [← e]
            exact Nat.le_trans HT3.out.size ht5.size)
          have hpc := HPC2.out
          simp only at hpc
          rw [HQV.out] at hpc
          have HFQ := Lib.hid hfq
          have HT6 := Lib.hid hT6
          have HN6 := Lib.hid hn6
          have HEM := Lib.hid hem
          have HPC3 := Lib.hid hpc
          have hlW : leftQ S ts.length wr = ts.length + 1 - a' := leftQ_good HST.out
          have HLW := Lib.hid hlW
          have HG := Lib.hid hg
          clear hst5 ht5 hn5 hf5 hlit hem hn6 hT6 hfq hpc hlW hg HT3 HST3 HST HNW HFR HPC2 HR2 HGD
          go_wp2_with fail
          refine HEM.out.mono ?_
          rintro e w7 hpp
          clear HEM
          cases hem : emitP ts (a3 + 1) (ps2.map Prod.snd) (4 + ix, ⟨#[]⟩, 0, [(l : Int), (r2 : Int)]) with
          | bad o1 =>
            rw [hem] at hpp
            obtain ⟨rfl, hb⟩ := hpp
            have hp2 := HPC3.out
            rw [hem] at hp2
            injection hp2 with hp2
            subst hp2
            exact ⟨rfl, rfl, (H0.out.under HT6.out).trans hb⟩
          | ok r4 a4 ns4 =>
            rw [hem] at hpp
            have hp2 := HPC3.out
            rw [hem] at hp2
            obtain rfl := (emit_ok hem).1
            obtain ⟨rfl, NA4, nc4, ps4, hps4, hst7, ht7, hn7, hl7, hf7⟩ := hpp
            subst hps4
            have hrel : ∃ (f' l a : Nat) (NA' : Option Addr) (nc' : Nat) (ps' : List PN), f' ≤ f ∧ Value.int .i64 (r4 : Nat) = .int .i64 l ∧ par ts f' (.chain true l a d (ps'.map Prod.snd)) = some R ∧ PSq w7 base S A c a ts NA' nc' ps' x3 ∧ Turn (TS S NA) w w7 ∧ NewN w NA NA' ∧ ps'.length ≤ 60 ∧ a < ts.length ∧ FrA w ps ps' :=
              ⟨f', r4, a3 + 1, NA4, nc4, ps4, by omega, rfl, hp2, hst7, turn_chain HT6.out HN6.out ht7, newN_trans HT6.out.size HN6.out hn7, hl7, HG.out.1, HFQ.out.trans HT6.out.size hf7⟩
            have hms : leftQ S ts.length w7 < leftQ S ts.length wr := by
              rw [leftQ_good hst7, HLW.out]
              have := HG.out
              omega
            have HREL := Lib.hid hrel
            have HMS := Lib.hid hms
            clear hrel hms hp2 hem hst7 ht7 hn7 hf7 hl7 HT6 HN6 HPC3 HFQ
            go_wp2_with fail
            go_roundw
            case rel => exact HREL.out
            case measure => exact HMS.out

set_option maxRecDepth 100000 in
set_option maxHeartbeats 8000000 in
theorem opsF_any {f : Nat} (ih : ∀ g, g ≤ f → FacQ g) : OpsF (f + 1) := by
  intro w base S c a d nc A NA ts ps x3 R hT h hn ha hd hp
  simp only [par, Bool.false_eq_true, if_false] at hp
  have IH := Lib.hid ih
  have HTS := Lib.hid hT
  have H0 := Lib.hid h
  clear ih hT
  have hR1 : ∃ R1, par ts f (.fac a d (ps.map Prod.snd)) = some R1 := by
    cases e : par ts f (.fac a d (ps.map Prod.snd)) with
    | none => rw [e] at hp; cases hp
    | some R1 => exact ⟨R1, rfl⟩
  obtain ⟨R1, hR1⟩ := hR1
  rw [hR1] at hp
  have HGD := Lib.hid (par_good HTS.out.ok.ends f (.fac a d (ps.map Prod.snd)) _ ha hR1)
  have HCL := Lib.hid (IH.out f (Nat.le_refl _) w base S c a d nc A NA ts ps x3 R1 HTS.out h hn ha hd hR1)
  have HP := Lib.hid hp
  clear hp h hR1
  go_enter Tryz.func50, Tryz.ntmps50
  go_wp2_with fail
  refine HCL.out.mono ?_
  rintro e w1 hpp
  cases R1 with
  | bad o1 =>
    obtain ⟨rfl, hb⟩ := hpp
    have hp2 := HP.out
    injection hp2 with hp2
    subst hp2
    exact ⟨rfl, rfl, hb⟩
  | ok r1 a1 ns1 =>
    obtain ⟨rfl, NA1, nc1, ps1, hps1, hst1, ht1, hn1, hl1, hf1⟩ := hpp
    subst hps1
    have hg1 := (HGD.out _ _ _ rfl).1
    have HP1 : Hid (par ts f (.chain false r1 a1 d (ps1.map Prod.snd)) = some R) := Lib.hid HP.out
    have HST1 := Lib.hid hst1
    have HT1 := Lib.hid ht1
    have HN1 := Lib.hid hn1
    have HF1 := Lib.hid hf1
    clear hst1 ht1 hn1 hf1 HCL HGD HP
    go_wp2_with fail
    go_loopw [9] (fun v wr => ∃ (f' l a : Nat) (NA' : Option Addr) (nc' : Nat) (ps' : List PN), f' ≤ f ∧ v = .int .i64 l ∧ par ts f' (.chain false l a d (ps'.map Prod.snd)) = some R ∧ PSq wr base S A c a ts NA' nc' ps' x3 ∧ Turn (TS S NA) w wr ∧ NewN w NA NA' ∧ ps'.length ≤ 60 ∧ a < ts.length ∧ FrA w ps ps') (fun _ wr => leftQ S ts.length wr)
    case atStart => exact ⟨f, r1, a1, NA1, nc1, ps1, Nat.le_refl _, rfl, HP1.out, HST1.out, HT1.out, HN1.out, hl1, hg1, HF1.out⟩
    case round =>
      clear HST1 HT1 HN1 HF1 HP1 hl1 hg1
      obtain ⟨f', l, a', NA', nc', ps', hf, rfl, hpc, hst, ht, hnw, hl, ha', hfr⟩ := hrel
      cases f' with
      | zero => simp [par] at hpc
      | succ f' =>
      simp only [par, Bool.false_eq_true, if_false] at hpc
      have hse := sees_any [42, 47] S c a' A ts (.slice NA' ps'.length nc') x3 wr hst.box hst.rows ha' hst.lt (by simp) (by simp) (by decide) (HTS.out.form a' ha')
      have hop := op_see false ts a'
      rw [if_neg (by simp)] at hop
      have hidx := op_index (add := false) (ts := ts) (a := a')
      obtain ⟨q, hq⟩ : ∃ q, q = opP false (symA ts a') := ⟨_, rfl⟩
      rw [← hq] at hpc hop hidx
      obtain ⟨sb, hsb⟩ : ∃ sb, sb = seeB [42, 47] ts a' := ⟨_, rfl⟩
      rw [← hsb] at hse hop
      have HSE := Lib.hid hse
      have HST := Lib.hid hst
      have HT := Lib.hid ht
      have HNW := Lib.hid hnw
      have HFR := Lib.hid hfr
      have HPC := Lib.hid hpc
      have HOP := Lib.hid hop
      have HQ := Lib.hid hq
      have HIX := Lib.hid hidx
      clear hse hst ht hnw hfr hpc hop hq hsb hidx
      cases sb with
      | false =>
        have hq0 : q = 0 := HOP.out.2 rfl
        have hpc := HPC.out
        rw [if_pos hq0] at hpc
        injection hpc with hpc
        subst hpc
        clear hq0
        go_wp2_with fail
        refine HSE.out.mono ?_
        rintro e w2 ⟨rfl, hb2⟩
        have HZ : Hid (PQost base S A c ts NA ps x3 (.ok l a' (ps'.map Prod.snd)) w (.returned (.int .i64 l)) w2) := Lib.hid ⟨rfl, NA', nc', ps', rfl, HST.out.later hb2, HT.out.trans (Turn.of_later hb2), HNW.out, hl, HFR.out⟩
        clear hb2 HSE HST HT HNW HFR HPC HOP HQ HIX
        go_wp2_with fail
        go_ret
        exact HZ.out
      | true =>
        have hq0 : ¬ q = 0 := fun e => by have := HOP.out.1 e; cases this
        have hpc := HPC.out
        rw [if_neg hq0] at hpc
        obtain ⟨by', hby, hqv⟩ := HIX.out hq0
        have h1 := op_next HTS.out.ok.ends ha' (show opP false (symA ts a') ≠ 0 by rw [← HQ.out]; exact hq0)
        have hR2 : ∃ R2, par ts f' (.fac (a' + 1) d (ps'.map Prod.snd)) = some R2 := by
          cases e : par ts f' (.fac (a' + 1) d (ps'.map Prod.snd)) with
          | none => rw [e] at hpc; cases hpc
          | some R2 => exact ⟨R2, rfl⟩
        obtain ⟨R2, hR2⟩ := hR2
        rw [hR2] at hpc
        have HGD := Lib.hid (par_good HTS.out.ok.ends f' (.fac (a' + 1) d (ps'.map Prod.snd)) _ h1 hR2)
        have HR2 := Lib.hid hR2
        have HPC2 := Lib.hid hpc
        have HH1 := Lib.hid h1
        clear hpc hR2 hq0 HOP HIX HPC
        go_wp2_with fail
        refine HSE.out.mono ?_
        rintro e w2 ⟨rfl, hb2⟩
        have hst2 := HST.out.later hb2
        have hrd := read_any S c a' A ts (.slice NA' ps'.length nc') x3 w2 hst2.box hst2.rows ha' hst2.lt HTS.out.ok.len
        obtain ⟨v, hv⟩ : ∃ v, v = tkA ts a' := ⟨_, rfl⟩
        rw [← hv] at hrd hby
        obtain ⟨v0, v1, v2, v3⟩ := v
        dsimp only [tkv, tok] at hrd hby
        subst hby
        have hfl := fun w => tok_fld1 v0 v2 v3 ⟨#[by']⟩ w
        have HST2 := Lib.hid hst2
        have HT2 := Lib.hid (HT.out.trans (Turn.of_later hb2))
        have HRD := Lib.hid hrd
        clear hb2 hst2 hrd hv HSE HT
        go_wp2_with fail
        refine HRD.out.mono ?_
        rintro e w3 ⟨rfl, ht3, hm3⟩
        have hst3 := HST2.out.turned (a' := a' + 1) ht3 hm3
        have HST3 := Lib.hid hst3
        have HT3 := Lib.hid (turn_chain HT2.out HNW.out (ht3.mono fun k e => .inl e))
        clear ht3 hm3 HST2 HT2 HRD
        have HIDX := Lib.hid (Tryz.strings_Index_one ⟨#[43, 45, 42, 47]⟩ by' w3)
        have hib : -1 ≤ Lib.indexByte [43, 45, 42, 47] by' := Lib.indexByte_ge _ _
        have hqb : q ≤ 7 := by
          rw [HQ.out]
          unfold opP
          split <;> split <;> (try split) <;> decide
        obtain ⟨ix, hix⟩ : ∃ ix, ix = Lib.indexByte [43, 45, 42, 47] by' := ⟨_, rfl⟩
        rw [show (⟨#[43, 45, 42, 47]⟩ : ByteArray).data.toList = [43, 45, 42, 47] from rfl, ← hix] at HIDX
        rw [← hix] at hqv hib
        have HQV := Lib.hid hqv
        have hix2 : ix ≤ 3 := by omega
        have HCL := Lib.hid (IH.out f' (by omega) w3 base S c (a' + 1) d nc' A NA' ts ps' x3 R2 HTS.out hst3 hl HH1.out hd HR2.out)
        clear hst3 hix hqv hqb
        go_wp2_with fail
        refine HIDX.out.mono ?_
        rintro e w4 ⟨rfl, rfl⟩
        clear HIDX
        go_wp2_with fail
        refine HCL.out.mono ?_
        rintro e w5 hpp
        clear HCL hfl
        cases R2 with
        | bad o1 =>
          obtain ⟨rfl, hb⟩ := hpp
          have hp2 := HPC2.out
          injection hp2 with hp2
          subst hp2
          exact ⟨rfl, rfl, (H0.out.under HT3.out).trans hb⟩
        | ok r2 a2 ns2 =>
          obtain ⟨rfl, NA2, nc2, ps2, hps2, hst5, ht5, hn5, hl5, hf5⟩ := hpp
          subst hps2
          have hg := HGD.out _ _ _ rfl
          simp only [atM] at hg
          obtain ⟨a3, rfl⟩ : ∃ a3, a2 = a3 + 1 := ⟨a2 - 1, by omega⟩
          have hlit := hst5.lit [(l : Int), (r2 : Int)] #[.int .i64 l, .int .i64 r2] rfl (by unfold maxLen; simp)
          have hem := add_any ((some ⟨w5.heap.size, 0, none⟩, 2), (q, ⟨#[]⟩, 0, [(l : Int), (r2 : Int)])) _ hlit.1 (by omega) HTS.out.ok.len hl5 hlit.2.1 hlit.2.2.1 hlit.2.2.2.1 hlit.2.2.2.2
          rw [HQV.out] at hem
          have hn6 : NewN w NA NA2 := newN_trans HT3.out.size HNW.out hn5
          have hT6 : Turn (TS S NA) w (w5.alloc (.cells #[.int .i64 l, .int .i64 r2] 3)) := (turn_chain HT3.out HNW.out ht5).trans (Turn.of_later (by go_grown))
          have hfq : FrA w ps (ps2 ++ [((some ⟨w5.heap.size, 0, none⟩, 2), (4 + ix, ⟨#[]⟩, 0, [(l : Int), (r2 : Int)]))]) := (FrA.trans HFR.out HT3.out.size hf5).add (fun b hb => by
            have e : w5.heap.size = b := by injection hb
            rw [← e]
            exact Nat.le_trans HT3.out.size ht5.size)
          have hpc := HPC2.out
          simp only at hpc
          rw [HQV.out] at hpc
          have HFQ := Lib.hid hfq
          have HT6 := Lib.hid hT6
          have HN6 := Lib.hid hn6
          have HEM := Lib.hid hem
          have HPC3 := Lib.hid hpc
          have hlW : leftQ S ts.length wr = ts.length + 1 - a' := leftQ_good HST.out
          have HLW := Lib.hid hlW
          have HG := Lib.hid hg
          clear hst5 ht5 hn5 hf5 hlit hem hn6 hT6 hfq hpc hlW hg HT3 HST3 HST HNW HFR HPC2 HR2 HGD
          go_wp2_with fail
          refine HEM.out.mono ?_
          rintro e w7 hpp
          clear HEM
          cases hem : emitP ts (a3 + 1) (ps2.map Prod.snd) (4 + ix, ⟨#[]⟩, 0, [(l : Int), (r2 : Int)]) with
          | bad o1 =>
            rw [hem] at hpp
            obtain ⟨rfl, hb⟩ := hpp
            have hp2 := HPC3.out
            rw [hem] at hp2
            injection hp2 with hp2
            subst hp2
            exact ⟨rfl, rfl, (H0.out.under HT6.out).trans hb⟩
          | ok r4 a4 ns4 =>
            rw [hem] at hpp
            have hp2 := HPC3.out
            rw [hem] at hp2
            obtain rfl := (emit_ok hem).1
            obtain ⟨rfl, NA4, nc4, ps4, hps4, hst7, ht7, hn7, hl7, hf7⟩ := hpp
            subst hps4
            have hrel : ∃ (f' l a : Nat) (NA' : Option Addr) (nc' : Nat) (ps' : List PN), f' ≤ f ∧ Value.int .i64 (r4 : Nat) = .int .i64 l ∧ par ts f' (.chain false l a d (ps'.map Prod.snd)) = some R ∧ PSq w7 base S A c a ts NA' nc' ps' x3 ∧ Turn (TS S NA) w w7 ∧ NewN w NA NA' ∧ ps'.length ≤ 60 ∧ a < ts.length ∧ FrA w ps ps' :=
              ⟨f', r4, a3 + 1, NA4, nc4, ps4, by omega, rfl, hp2, hst7, turn_chain HT6.out HN6.out ht7, newN_trans HT6.out.size HN6.out hn7, hl7, HG.out.1, HFQ.out.trans HT6.out.size hf7⟩
            have hms : leftQ S ts.length w7 < leftQ S ts.length wr := by
              rw [leftQ_good hst7, HLW.out]
              have := HG.out
              omega
            have HREL := Lib.hid hrel
            have HMS := Lib.hid hms
            clear hrel hms hp2 hem hst7 ht7 hn7 hf7 hl7 HT6 HN6 HPC3 HFQ
            go_wp2_with fail
            go_roundw
            case rel => exact HREL.out
            case measure => exact HMS.out

theorem term_any {f : Nat} (ih : OpsF f) : TermC f := by
  intro w base S c a d nc A NA ts ps x3 R hT h hn ha hd hp
  have HC := Lib.hid (ih w base S c a d nc A NA ts ps x3 R hT h hn ha hd hp)
  have hmf : ∀ (fn : Fn) (first cap : Array Value) (w : World), (Instr.makeFunc fn first cap).run Tryz.prog w = .ok (.func fn first cap) w := fun _ _ _ _ => rfl
  clear hT h hp
  go_enter Tryz.func51, Tryz.ntmps51
  go_wp2_with fail
  refine HC.out.mono ?_
  rintro e w1 h1
  cases R with
  | bad o =>
    obtain ⟨rfl, h1⟩ := h1
    exact ⟨rfl, rfl, h1⟩
  | ok r a' ns' =>
    obtain ⟨rfl, h1⟩ := h1
    go_wp2_with fail
    go_ret
    exact ⟨rfl, h1⟩

theorem expr_any {f : Nat} (ih : OpsT f) : ExprC f := by
  intro w base S c a d nc A NA ts ps x3 R hT h hn ha hd hp
  have HC := Lib.hid (ih w base S c a d nc A NA ts ps x3 R hT h hn ha hd hp)
  have hmf : ∀ (fn : Fn) (first cap : Array Value) (w : World), (Instr.makeFunc fn first cap).run Tryz.prog w = .ok (.func fn first cap) w := fun _ _ _ _ => rfl
  clear hT h hp
  go_enter Tryz.func31, Tryz.ntmps31
  go_wp2_with fail
  refine HC.out.mono ?_
  rintro e w1 h1
  cases R with
  | bad o =>
    obtain ⟨rfl, h1⟩ := h1
    exact ⟨rfl, rfl, h1⟩
  | ok r a' ns' =>
    obtain ⟨rfl, h1⟩ := h1
    go_wp2_with fail
    go_ret
    exact ⟨rfl, h1⟩
end Go.Proofs.YtkbdnjhgcoihhaaGreatDoor
