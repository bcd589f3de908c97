/- The program's parser: arguments, names and calls, factors. -/
import Derived.Test.YtkbdnjhgcoihhaaGreatDoorProg
import Derived.Test.YtkbdnjhgcoihhaaGreatDoorInts
import Derived.Test.YtkbdnjhgcoihhaaGreatDoorVbox
import Derived.Test.YtkbdnjhgcoihhaaGreatDoorHeld
import Derived.Test.YtkbdnjhgcoihhaaGreatDoorMem
import Derived.Test.YtkbdnjhgcoihhaaGreatDoorFlat
import Derived.Test.YtkbdnjhgcoihhaaGreatDoorRowC
import Derived.Test.YtkbdnjhgcoihhaaGreatDoorKS
import Derived.Test.YtkbdnjhgcoihhaaGreatDoorStrS
import Derived.Test.YtkbdnjhgcoihhaaGreatDoorIntS
import Derived.Test.YtkbdnjhgcoihhaaGreatDoorSS
import Derived.Test.YtkbdnjhgcoihhaaGreatDoorTok
import Derived.Test.YtkbdnjhgcoihhaaGreatDoorPg
import Derived.Test.YtkbdnjhgcoihhaaGreatDoorPh
import Derived.Test.YtkbdnjhgcoihhaaGreatDoorPi
import Derived.Test.YtkbdnjhgcoihhaaGreatDoorPk
import Derived.Test.YtkbdnjhgcoihhaaGreatDoorPl
import Derived.Test.YtkbdnjhgcoihhaaGreatDoorPp
import Derived.Test.YtkbdnjhgcoihhaaGreatDoorPq
import Derived.Test.YtkbdnjhgcoihhaaGreatDoorPr
import Derived.Test.YtkbdnjhgcoihhaaGreatDoorPs
import Derived.Test.YtkbdnjhgcoihhaaGreatDoorPt
import Derived.Test.YtkbdnjhgcoihhaaGreatDoorPu
import Derived.Test.YtkbdnjhgcoihhaaGreatDoorPv
import Derived.Test.YtkbdnjhgcoihhaaGreatDoorPw
import Derived.Test.YtkbdnjhgcoihhaaGreatDoorTp
import Derived.Test.YtkbdnjhgcoihhaaGreatDoorShelf
import Derived.Test.YtkbdnjhgcoihhaaGreatDoorRa
import Derived.Test.YtkbdnjhgcoihhaaGreatDoorRb
import Derived.Test.YtkbdnjhgcoihhaaGreatDoorRc
import Derived.Test.YtkbdnjhgcoihhaaGreatDoorRd
import Derived.Test.YtkbdnjhgcoihhaaGreatDoorRe
import Derived.WalkKit
import Derived.WalkSpells
import Derived.WalkLawsBesides
import Derived.Lib.Hide
import Derived.Deep.RegionHeld3
import Derived.Deep.QuietTactic
import Derived.BigQuiet
import Derived.Handy
import Derived.Deep.DeepCutAuto
import Derived.Maps.AppendAt
namespace Go.Proofs.YtkbdnjhgcoihhaaGreatDoor
open Go.RowKit

/-- what is still to come behind an argument, or behind a call's bracket where the call has none -/
def restP (ts : List Tk) (f : Nat) (nm : ByteArray) (xs : List Int) (a d : Nat) (ns : List Nd) : Option PR :=
  if symA ts a = ⟨#[44]⟩ then par ts f (.call nm xs (a + 1) d ns) else if symA ts a = ⟨#[41]⟩ then some (emitP ts (a + 1) ns (8, nm, 0, xs)) else some (.bad (offA ts a))
theorem call_rest {ts : List Tk} {f : Nat} {nm : ByteArray} {xs : List Int} {a d : Nat} {ns : List Nd} (h : ¬ xs.length = 3) : par ts (f + 1) (.call nm xs a d ns) = match par ts f (.bin true a d ns) with
    | some (.ok r a' ns') => restP ts f nm (xs ++ [(r : Int)]) a' d ns'
    | x => x := by
  simp only [par, if_neg h]
  cases par ts f (.bin true a d ns) with
  | none => rfl
  | some R => cases R <;> rfl
/-- what readArguments leaves -/
def ArgsPost (base S : Nat) (A : Option Addr) (c : Nat) (ts : List Tk) (NA : Option Addr) (ps : List PN) (x3 : Value) (nm : ByteArray) (R : PR) (w : World) (e : Ending) (w' : World) : Prop :=
  (∃ o, R = .bad o ∧ e = .panicked (panicV o) ∧ Below base w w') ∨
  (∃ (xs : List Int) (GA : Option Addr) (gc a' : Nat) (NA' : Option Addr) (nc' : Nat) (ps' : List PN), e = .returned (.slice GA xs.length gc) ∧ R = emitP ts (a' + 1) (ps'.map Prod.snd) (8, nm, 0, xs) ∧ PSq w' base S A c (a' + 1) ts NA' nc' ps' x3 ∧ Turn (TS S NA) w w' ∧ NewN w NA NA' ∧ ps'.length ≤ 60 ∧ FrA w ps ps' ∧ ArgS w w' base S NA' ps' GA gc xs ∧ a' < ts.length)

def ArgsC (f : Nat) : Prop := ∀ (w : World) (base S c a d nc : Nat) (A NA : Option Addr) (ts : List Tk) (ps : List PN) (x3 : Value) (nm : ByteArray) (R : PR), TsG ts → PSq w base S A c a ts NA nc ps x3 → ps.length ≤ 60 → a < ts.length → d ≤ 65 → symA ts a = ⟨#[40]⟩ → (if symA ts (a + 1) = ⟨#[41]⟩ then some (emitP ts (a + 2) (ps.map Prod.snd) (8, nm, 0, [])) else par ts f (.call nm [] (a + 1) d (ps.map Prod.snd))) = some R →
  Calls Tryz.prog 95 #[.pointer (some ⟨S, 0, none⟩), .int .i64 (d : Nat)] w (ArgsPost base S A c ts NA ps x3 nm R w)

set_option maxRecDepth 100000 in
set_option maxHeartbeats 8000000 in
theorem args_any {f : Nat} (ih : ∀ g, g < f → ExprC g) : ArgsC f := by
  intro w base S c a d nc A NA ts ps x3 nm R hT h hn ha hd hs0 hp
  have IH := Lib.hid ih
  have HTS := Lib.hid hT
  have H0 := Lib.hid h
  have ha1 := sym_next hT.ok.ends ha hs0 (by decide)
  have HEX0 := Lib.hid (expect_yes 40 S c a A ts (.slice NA ps.length nc) x3 w h.box h.rows ha h.lt hT.ok.len (by decide) (hT.form a ha) hs0)
  have HP := Lib.hid hp
  clear ih hT h hp hs0
  go_enter Tryz.func95, Tryz.ntmps95
  go_wp2_with fail
  refine HEX0.out.mono ?_
  rintro e w1 ⟨rfl, ht1, hm1⟩
  have hst1 := H0.out.turned (a' := a + 1) ht1 hm1
  have HT1 : Hid (Turn (TS S NA) w w1) := Lib.hid (ht1.mono fun k e => .inl e)
  have hse := sees_any [41] S c (a + 1) A ts (.slice NA ps.length nc) x3 w1 hst1.box hst1.rows ha1 hst1.lt (by simp) (by simp) (by decide) (HTS.out.form (a + 1) ha1)
  rw [see_one] at hse
  have HST1 := Lib.hid hst1
  clear ht1 hm1 hst1 HEX0
  by_cases sc : symA ts (a + 1) = ⟨#[41]⟩
  · have hp := HP.out
    rw [if_pos sc] at hp
    rw [decide_eq_true sc] at hse
    have HSE := Lib.hid hse
    have hrest : restP ts 0 nm [] (a + 1) d (ps.map Prod.snd) = some R := by
      unfold restP
      rw [if_neg (by rw [sc]; decide), if_pos sc]
      exact hp
    have HRS := Lib.hid hrest
    clear hp hse sc HP hrest
    go_wp2_with fail
    refine HSE.out.mono ?_
    rintro e w2 ⟨rfl, hb2⟩
    have HST2 := Lib.hid (HST1.out.later hb2)
    have HT2 := Lib.hid (HT1.out.trans (Turn.of_later hb2))
    clear hb2 HSE HST1 HT1
    go_wp2_with fail
    go_loopw [5] (fun v wr => ∃ (f' a' : Nat) (NA' : Option Addr) (nc' : Nat) (ps' : List PN) (zs : List Int) (GA : Option Addr) (gc : Nat), f' ≤ f ∧ v = .slice GA zs.length gc ∧ restP ts f' nm zs a' d (ps'.map Prod.snd) = some R ∧ PSq wr base S A c a' ts NA' nc' ps' x3 ∧ Turn (TS S NA) w wr ∧ NewN w NA NA' ∧ ps'.length ≤ 60 ∧ a' < ts.length ∧ FrA w ps ps' ∧ ArgS w wr base S NA' ps' GA gc zs ∧ zs.length ≤ 3) (fun _ wr => leftQ S ts.length wr)
    case atStart => exact ⟨0, a + 1, NA, nc, ps, [], none, 0, Nat.zero_le _, rfl, HRS.out, HST2.out, HT2.out, newN_refl w NA, hn, ha1, FrA.refl w ps, ArgS.none, by simp⟩
    case round =>
      clear HST2 HT2 HRS
      obtain ⟨f', a', NA', nc', ps', xs, GA, gc, hf, rfl, hpc, hst, ht, hnw, hls, ha', hfr, hag, hxl⟩ := hrel
      unfold restP at hpc
      have hse := sees_any [44] S c a' A ts (.slice NA' ps'.length nc') x3 wr hst.box hst.rows ha' hst.lt (by simp) (by simp) (by decide) (HTS.out.form a' ha')
      rw [see_one] at hse
      have hlW := leftQ_good hst
      have HLW := Lib.hid hlW
      have HST := Lib.hid hst
      have HT := Lib.hid ht
      have HN := Lib.hid hnw
      have HF := Lib.hid hfr
      have HAG := Lib.hid hag
      clear hst ht hnw hfr hag hlW
      by_cases s2 : symA ts a' = ⟨#[44]⟩
      · rw [if_pos s2] at hpc
        rw [decide_eq_true s2] at hse
        have HSE := Lib.hid hse
        have h1 := sym_next HTS.out.ok.ends ha' s2 (by decide)
        cases f' with
        | zero => simp [par] at hpc
        | succ f' =>
        have HPC0 := Lib.hid hpc
        clear hse s2 hpc
        go_wp2_with fail
        refine HSE.out.mono ?_
        rintro e w2 ⟨rfl, hb2⟩
        have hst2 := HST.out.later hb2
        have c1 := hst2.box.c 1
        have f1 := hst2.box.f 1
        have hnx := hst2.next (a' := a' + 1)
        have e1 : ((a' + 1 : Nat) : Int) = (a' : Int) + 1 := by omega
        have hag3 := (HAG.out.later hb2).step ((Turn.refl (TS S NA') w2).setCell (g := S) (i := 1) (.inl rfl) (.int .i64 ((a' + 1 : Nat) : Int))) (newN_refl w2 NA') (FrA.refl w2 ps')
        have hT3 := turn_chain (HT.out.trans (Turn.of_later hb2)) HN.out ((Turn.refl (TS S NA') w2).setCell (g := S) (i := 1) (.inl rfl) (.int .i64 ((a' + 1 : Nat) : Int)))
        rw [e1] at hnx hag3 hT3
        have hlb1 : (a' : Int) < 1099511627776 := by have := HTS.out.ok.len; omega
        have hge1 : (0 : Int) ≤ (a' : Int) := by omega
        have HNX := Lib.hid hnx
        have HAG3 := Lib.hid hag3
        have HT3 := Lib.hid hT3
        clear hb2 hst2 hnx e1 hag3 hT3 HSE HST HAG HT
        go_upto_region 7 with fail
        obtain ⟨W3, hW3⟩ : ∃ W, W = w2.setCell ⟨S, 1, none⟩ (.int .i64 ((a' : Int) + 1)) := ⟨_, rfl⟩
        rw [← hW3] at HNX HAG3 HT3 ⊢
        clear hW3 c1 f1
        have HST : Hid (PSq W3 base S A c (a' + 1) ts NA' nc' ps' x3) := HNX
        have HAG : Hid (ArgS w W3 base S NA' ps' GA gc xs) := HAG3
        have HT : Hid (Turn (TS S NA) w W3) := HT3
        clear HNX HAG3 HT3
        have hst3 := HST.out
        by_cases h3 : xs.length = 3
        · have b3 : ((xs.length : Int) == 3) = true := by simp; omega
          have hpc := HPC0.out
          simp only [par, if_pos h3] at hpc
          injection hpc with hpc
          have HRJ := Lib.hid (reject_any S c (a' + 1) A ts (.slice NA' ps'.length nc') x3 W3 hst3.box hst3.rows h1 hst3.lt)
          have HP2 := Lib.hid hpc
          clear hst3 hpc h3 HPC0
          go_wp2_with fail
          refine HRJ.out.mono ?_
          rintro e w4 ⟨rfl, hb4⟩
          exact ⟨rfl, .inl ⟨_, HP2.out.symm, rfl, (H0.out.under HT.out).trans (hb4.mono HST.out.baseLe)⟩⟩
        · have b3 : ((xs.length : Int) == 3) = false := by simp; omega
          have hpc := HPC0.out
          rw [call_rest h3] at hpc
          have HPC := Lib.hid hpc
          have has : a' + 1 < ts.length := h1
          have hx3 : xs.length + 1 ≤ 3 := by omega
          clear hst3 hpc h3 h1 HPC0
          have hpc := HPC.out
          have hR2 : ∃ R2, par ts f' (.bin true (a' + 1) d (ps'.map Prod.snd)) = some R2 := by
            cases e : par ts f' (.bin true (a' + 1) d (ps'.map Prod.snd)) with
            | none => rw [e] at hpc; cases hpc
            | some R2 => exact ⟨R2, rfl⟩
          obtain ⟨R2, hR2⟩ := hR2
          rw [hR2] at hpc
          have HGD := Lib.hid (par_good HTS.out.ok.ends f' (.bin true (a' + 1) d (ps'.map Prod.snd)) _ has hR2)
          have HCL := Lib.hid (IH.out f' (by omega) W3 base S c (a' + 1) d nc' A NA' ts ps' x3 R2 HTS.out HST.out hls has hd hR2)
          have HPC2 := Lib.hid hpc
          clear hpc hR2 HPC
          go_wp2_with fail
          refine HCL.out.mono ?_
          rintro e w4 hpp
          clear HCL
          cases R2 with
          | bad o1 =>
            obtain ⟨rfl, hb⟩ := hpp
            have hp2 := HPC2.out
            injection hp2 with hp2
            exact ⟨rfl, .inl ⟨o1, hp2.symm, rfl, (H0.out.under HT.out).trans hb⟩⟩
          | ok r1 a1 ns1 =>
            obtain ⟨rfl, NA1, nc1, ps1, hps1, hst4, ht4, hn4, hl4, hf4⟩ := hpp
            subst hps1
            have hg := HGD.out _ _ _ rfl
            simp only [atM] at hg
            have hag4 := HAG.out.step ht4 hn4 hf4
            have hT4 := turn_chain HT.out HN.out ht4
            have hN4 := newN_trans HT.out.size HN.out hn4
            have hF4 := FrA.trans HF.out HT.out.size hf4
            have hbA : Below w4.heap.size w4 (w4.alloc (.cells #[.int .i64 (r1 : Nat)] 3)) := by go_grown
            have hst5 := hst4.later hbA
            have hag5 := hag4.later hbA
            have hT5 : Turn (TS S NA) w (w4.alloc (.cells #[.int .i64 (r1 : Nat)] 3)) := hT4.trans (Turn.of_later hbA)
            have HST5 := Lib.hid hst5
            have HAG5 := Lib.hid hag5
            have HT5 := Lib.hid hT5
            have HN4 := Lib.hid hN4
            have HF4 := Lib.hid hF4
            have hbs : base ≤ (w4.alloc (.cells #[.int .i64 (r1 : Nat)] 3)).heap.size := hst5.baseLe
            clear hst4 ht4 hn4 hf4 hag4 hT4 hN4 hF4 hbA hst5 hag5 hT5
            go_wp2_with (at_builtin; refine wpList_app1_atP _ rfl _ _ 69 rfl base 3 (.int .i64 0) 8 Tryz.underlying69 infoInt rfl (.slice GA xs.length gc) xs.length (xs.map I64) (by rfl) HAG5.out.own w4.heap.size (.int .i64 (r1 : Nat)) (by rfl) (by first | rfl | simp) (by rfl) (by first | (unfold maxLen; omega) | (unfold maxLen; simp)) (by first | omega | simp) hbs ?_)
            intro v6 w6 ho6 hg6 hat6
            obtain ⟨GA6, gc6, rfl⟩ := own_shape ho6
            have ht6 := turn_argA hg6
            have hst6 := HST5.out.argT HAG5.out ht6
            have hag6 : ArgS w w6 base S NA1 ps1 GA6 gc6 (xs ++ [(r1 : Int)]) := HAG5.out.appQ HST5.out HT5.out.size (show w6.ownsRow base 3 1 (.slice GA6 (xs ++ [(r1 : Int)]).length gc6) (xs ++ [(r1 : Int)]).length ((xs ++ [(r1 : Int)]).map I64) by
              rw [List.length_append, List.map_append]; exact ho6) (by
              rw [own_blk, own_blk] at hat6
              simpa using hat6)
            have hT6 : Turn (TS S NA) w w6 := HT5.out.newer ht6 HAG5.out.new
            have hx6 : (xs ++ [(r1 : Int)]).length = xs.length + 1 := by simp
            have hrel : ∃ (f' a' : Nat) (NA' : Option Addr) (nc' : Nat) (ps' : List PN) (zs : List Int) (GA : Option Addr) (gc : Nat), f' ≤ f ∧ Value.slice GA6 (xs.length + 1) gc6 = .slice GA zs.length gc ∧ restP ts f' nm zs a' d (ps'.map Prod.snd) = some R ∧ PSq w6 base S A c a' ts NA' nc' ps' x3 ∧ Turn (TS S NA) w w6 ∧ NewN w NA NA' ∧ ps'.length ≤ 60 ∧ a' < ts.length ∧ FrA w ps ps' ∧ ArgS w w6 base S NA' ps' GA gc zs ∧ zs.length ≤ 3 :=
              ⟨f', a1, NA1, nc1, ps1, xs ++ [(r1 : Int)], GA6, gc6, by omega, by rw [hx6], HPC2.out, hst6, hT6, HN4.out, hl4, hg.1, HF4.out, hag6, by first | omega | simp⟩
            have HREL := Lib.hid hrel
            have HMS : Hid (leftQ S ts.length w6 < ts.length + 1 - (a' + 1)) := Lib.hid (by rw [leftQ_good hst6]; omega)
            clear ho6 hg6 hat6 ht6 hst6 hag6 hT6 hx6 hrel HST5 HAG5 HT5 HN4 HF4 hg hbs HPC2 HGD HST HT HN HF HAG
            go_wp2_with fail
            go_roundw
            case rel => exact HREL.out
            case measure =>
              show leftQ S ts.length w6 < leftQ S ts.length wr
              rw [HLW.out]
              exact Nat.lt_trans HMS.out (by omega)
      · rw [if_neg s2] at hpc
        rw [decide_eq_false s2] at hse
        have HSE := Lib.hid hse
        have HPC := Lib.hid hpc
        clear hse s2 hpc
        go_wp2_with fail
        refine HSE.out.mono ?_
        rintro e w2 ⟨rfl, hb2⟩
        have hst2 := HST.out.later hb2
        have HT2 := Lib.hid (HT.out.trans (Turn.of_later hb2))
        have HAG2 := Lib.hid (HAG.out.later hb2)
        have HST2 := Lib.hid hst2
        clear hb2 HSE HT HAG HST
        have hpc := HPC.out
        by_cases s3 : symA ts a' = ⟨#[41]⟩
        · rw [if_pos s3] at hpc
          injection hpc with hpc
          have HEX := Lib.hid (expect_yes 41 S c a' A ts (.slice NA' ps'.length nc') x3 w2 hst2.box hst2.rows ha' hst2.lt HTS.out.ok.len (by decide) (HTS.out.form a' ha') s3)
          have HP2 := Lib.hid hpc
          clear hst2 hpc s3 HPC
          go_wp2_with fail
          refine HEX.out.mono ?_
          rintro e w3 ⟨rfl, ht3, hm3⟩
          have HST3 := Lib.hid (HST2.out.turned (a' := a' + 1) ht3 hm3)
          have HAG3 := Lib.hid (HAG2.out.step (ht3.mono fun k e => .inl e) (newN_refl w2 NA') (FrA.refl w2 ps'))
          have HT3 := Lib.hid (turn_chain HT2.out HN.out (ht3.mono fun k e => .inl e))
          clear ht3 hm3 HST2 HAG2 HT2 HEX
          go_wp2_with fail
          go_ret
          exact .inr ⟨xs, GA, gc, a', NA', nc', ps', rfl, HP2.out.symm, HST3.out, HT3.out, HN.out, hls, HF.out, HAG3.out, ha'⟩
        · rw [if_neg s3] at hpc
          injection hpc with hpc
          have HEX := Lib.hid (expect_no 41 S c a' A ts (.slice NA' ps'.length nc') x3 w2 hst2.box hst2.rows ha' hst2.lt HTS.out.ok.len (by decide) (HTS.out.form a' ha') s3)
          have HP2 := Lib.hid hpc
          clear hst2 hpc s3 HPC
          go_wp2_with fail
          refine HEX.out.mono ?_
          rintro e w3 ⟨rfl, hb3⟩
          exact ⟨rfl, .inl ⟨_, HP2.out.symm, rfl, (H0.out.under HT2.out).trans (hb3.mono HST2.out.baseLe)⟩⟩
  · have hp := HP.out
    rw [if_neg sc] at hp
    rw [decide_eq_false sc] at hse
    have HSE := Lib.hid hse
    cases f with
    | zero => simp [par] at hp
    | succ f0 =>
    rw [call_rest (by simp)] at hp
    have HPC := Lib.hid hp
    clear hp hse sc HP
    go_wp2_with fail
    refine HSE.out.mono ?_
    rintro e w2 ⟨rfl, hb2⟩
    have HST := Lib.hid (HST1.out.later hb2)
    have HT := Lib.hid (HT1.out.trans (Turn.of_later hb2))
    have HN : Hid (NewN w NA NA) := Lib.hid (newN_refl w NA)
    have HF : Hid (FrA w ps ps) := Lib.hid (FrA.refl w ps)
    have HAG : Hid (ArgS w w2 base S NA ps none 0 []) := Lib.hid ArgS.none
    have has := ha1
    have hls := hn
    clear hb2 HSE HST1 HT1
    have hpc := HPC.out
    have hR2 : ∃ R2, par ts f0 (.bin true (a + 1) d (ps.map Prod.snd)) = some R2 := by
      cases e : par ts f0 (.bin true (a + 1) d (ps.map Prod.snd)) with
      | none => rw [e] at hpc; cases hpc
      | some R2 => exact ⟨R2, rfl⟩
    obtain ⟨R2, hR2⟩ := hR2
    rw [hR2] at hpc
    have HGD := Lib.hid (par_good HTS.out.ok.ends f0 (.bin true (a + 1) d (ps.map Prod.snd)) _ has hR2)
    have HCL := Lib.hid (IH.out f0 (by omega) w2 base S c (a + 1) d nc A NA ts ps x3 R2 HTS.out HST.out hls has hd hR2)
    have HPC2 := Lib.hid hpc
    clear hpc hR2 HPC
    go_wp2_with fail
    refine HCL.out.mono ?_
    rintro e w4 hpp
    clear HCL
    cases R2 with
    | bad o1 =>
      obtain ⟨rfl, hb⟩ := hpp
      have hp2 := HPC2.out
      injection hp2 with hp2
      exact ⟨rfl, .inl ⟨o1, hp2.symm, rfl, (H0.out.under HT.out).trans hb⟩⟩
    | ok r1 a1 ns1 =>
      obtain ⟨rfl, NA1, nc1, ps1, hps1, hst4, ht4, hn4, hl4, hf4⟩ := hpp
      subst hps1
      have hg := HGD.out _ _ _ rfl
      simp only [atM] at hg
      have hag4 := HAG.out.step ht4 hn4 hf4
      have hT4 := turn_chain HT.out HN.out ht4
      have hN4 := newN_trans HT.out.size HN.out hn4
      have hF4 := FrA.trans HF.out HT.out.size hf4
      have hbA : Below w4.heap.size w4 (w4.alloc (.cells #[.int .i64 (r1 : Nat)] 3)) := by go_grown
      have hst5 := hst4.later hbA
      have hag5 := hag4.later hbA
      have hT5 : Turn (TS S NA) w (w4.alloc (.cells #[.int .i64 (r1 : Nat)] 3)) := hT4.trans (Turn.of_later hbA)
      have HST5 := Lib.hid hst5
      have HAG5 := Lib.hid hag5
      have HT5 := Lib.hid hT5
      have HN4 := Lib.hid hN4
      have HF4 := Lib.hid hF4
      have hbs : base ≤ (w4.alloc (.cells #[.int .i64 (r1 : Nat)] 3)).heap.size := hst5.baseLe
      clear hst4 ht4 hn4 hf4 hag4 hT4 hN4 hF4 hbA hst5 hag5 hT5
      go_wp2_with (at_builtin; refine wpList_app1_atP _ rfl _ _ 69 rfl base 3 (.int .i64 0) 8 Tryz.underlying69 infoInt rfl (.slice none ([] : List Int).length 0) ([] : List Int).length (([] : List Int).map I64) (by rfl) HAG5.out.own w4.heap.size (.int .i64 (r1 : Nat)) (by rfl) (by first | rfl | simp) (by rfl) (by first | (unfold maxLen; omega) | (unfold maxLen; simp)) (by first | omega | simp) hbs ?_)
      intro v6 w6 ho6 hg6 hat6
      obtain ⟨GA6, gc6, rfl⟩ := own_shape ho6
      have ht6 := turn_argA hg6
      have hst6 := HST5.out.argT HAG5.out ht6
      have hag6 : ArgS w w6 base S NA1 ps1 GA6 gc6 (([] : List Int) ++ [(r1 : Int)]) := HAG5.out.appQ HST5.out HT5.out.size (show w6.ownsRow base 3 1 (.slice GA6 (([] : List Int) ++ [(r1 : Int)]).length gc6) (([] : List Int) ++ [(r1 : Int)]).length ((([] : List Int) ++ [(r1 : Int)]).map I64) by
        rw [List.length_append, List.map_append]; exact ho6) (by
        rw [own_blk, own_blk] at hat6
        simpa using hat6)
      have hT6 : Turn (TS S NA) w w6 := HT5.out.newer ht6 HAG5.out.new
      have hx6 : (([] : List Int) ++ [(r1 : Int)]).length = ([] : List Int).length + 1 := by simp
      have hrel : ∃ (f' a' : Nat) (NA' : Option Addr) (nc' : Nat) (ps' : List PN) (zs : List Int) (GA : Option Addr) (gc : Nat), f' ≤ f0 + 1 ∧ Value.slice GA6 (([] : List Int).length + 1) gc6 = .slice GA zs.length gc ∧ restP ts f' nm zs a' d (ps'.map Prod.snd) = some R ∧ PSq w6 base S A c a' ts NA' nc' ps' x3 ∧ Turn (TS S NA) w w6 ∧ NewN w NA NA' ∧ ps'.length ≤ 60 ∧ a' < ts.length ∧ FrA w ps ps' ∧ ArgS w w6 base S NA' ps' GA gc zs ∧ zs.length ≤ 3 :=
        ⟨f0, a1, NA1, nc1, ps1, ([] : List Int) ++ [(r1 : Int)], GA6, gc6, by omega, by rw [hx6], HPC2.out, hst6, hT6, HN4.out, hl4, hg.1, HF4.out, hag6, by first | omega | simp⟩
      have HREL := Lib.hid hrel
      have HMS : Hid (leftQ S ts.length w6 < ts.length + 1 - (a + 1)) := Lib.hid (by rw [leftQ_good hst6]; omega)
      clear ho6 hg6 hat6 ht6 hst6 hag6 hT6 hx6 hrel HST5 HAG5 HT5 HN4 HF4 hg hbs HPC2 HGD HST HT HN HF HAG
      clear HMS
      go_wp2_with fail
      go_loopw [5] (fun v wr => ∃ (f' a' : Nat) (NA' : Option Addr) (nc' : Nat) (ps' : List PN) (zs : List Int) (GA : Option Addr) (gc : Nat), f' ≤ f0 + 1 ∧ v = .slice GA zs.length gc ∧ restP ts f' nm zs a' d (ps'.map Prod.snd) = some R ∧ PSq wr base S A c a' ts NA' nc' ps' x3 ∧ Turn (TS S NA) w wr ∧ NewN w NA NA' ∧ ps'.length ≤ 60 ∧ a' < ts.length ∧ FrA w ps ps' ∧ ArgS w wr base S NA' ps' GA gc zs ∧ zs.length ≤ 3) (fun _ wr => leftQ S ts.length wr)
      case atStart => exact HREL.out
      case round =>
        clear HREL
        obtain ⟨f', a', NA', nc', ps', xs, GA, gc, hf, rfl, hpc, hst, ht, hnw, hls, ha', hfr, hag, hxl⟩ := hrel
        unfold restP at hpc
        have hse := sees_any [44] S c a' A ts (.slice NA' ps'.length nc') x3 wr hst.box hst.rows ha' hst.lt (by simp) (by simp) (by decide) (HTS.out.form a' ha')
        rw [see_one] at hse
        have hlW := leftQ_good hst
        have HLW := Lib.hid hlW
        have HST := Lib.hid hst
        have HT := Lib.hid ht
        have HN := Lib.hid hnw
        have HF := Lib.hid hfr
        have HAG := Lib.hid hag
        clear hst ht hnw hfr hag hlW
        by_cases s2 : symA ts a' = ⟨#[44]⟩
        · rw [if_pos s2] at hpc
          rw [decide_eq_true s2] at hse
          have HSE := Lib.hid hse
          have h1 := sym_next HTS.out.ok.ends ha' s2 (by decide)
          cases f' with
          | zero => simp [par] at hpc
          | succ f' =>
          have HPC0 := Lib.hid hpc
          clear hse s2 hpc
          go_wp2_with fail
          refine HSE.out.mono ?_
          rintro e w2 ⟨rfl, hb2⟩
          have hst2 := HST.out.later hb2
          have c1 := hst2.box.c 1
          have f1 := hst2.box.f 1
          have hnx := hst2.next (a' := a' + 1)
          have e1 : ((a' + 1 : Nat) : Int) = (a' : Int) + 1 := by omega
          have hag3 := (HAG.out.later hb2).step ((Turn.refl (TS S NA') w2).setCell (g := S) (i := 1) (.inl rfl) (.int .i64 ((a' + 1 : Nat) : Int))) (newN_refl w2 NA') (FrA.refl w2 ps')
          have hT3 := turn_chain (HT.out.trans (Turn.of_later hb2)) HN.out ((Turn.refl (TS S NA') w2).setCell (g := S) (i := 1) (.inl rfl) (.int .i64 ((a' + 1 : Nat) : Int)))
          rw [e1] at hnx hag3 hT3
          have hlb1 : (a' : Int) < 1099511627776 := by have := HTS.out.ok.len; omega
          have hge1 : (0 : Int) ≤ (a' : Int) := by omega
          have HNX := Lib.hid hnx
          have HAG3 := Lib.hid hag3
          have HT3 := Lib.hid hT3
          clear hb2 hst2 hnx e1 hag3 hT3 HSE HST HAG HT
          go_upto_region 7 with fail
          obtain ⟨W3, hW3⟩ : ∃ W, W = w2.setCell ⟨S, 1, none⟩ (.int .i64 ((a' : Int) + 1)) := ⟨_, rfl⟩
          rw [← hW3] at HNX HAG3 HT3 ⊢
          clear hW3 c1 f1
          have HST : Hid (PSq W3 base S A c (a' + 1) ts NA' nc' ps' x3) := HNX
          have HAG : Hid (ArgS w W3 base S NA' ps' GA gc xs) := HAG3
          have HT : Hid (Turn (TS S NA) w W3) := HT3
          clear HNX HAG3 HT3
          have hst3 := HST.out
          by_cases h3 : xs.length = 3
          · have b3 : ((xs.length : Int) == 3) = true := by simp; omega
            have hpc := HPC0.out
            simp only [par, if_pos h3] at hpc
            injection hpc with hpc
            have HRJ := Lib.hid (reject_any S c (a' + 1) A ts (.slice NA' ps'.length nc') x3 W3 hst3.box hst3.rows h1 hst3.lt)
            have HP2 := Lib.hid hpc
            clear hst3 hpc h3 HPC0
            go_wp2_with fail
            refine HRJ.out.mono ?_
            rintro e w4 ⟨rfl, hb4⟩
            exact ⟨rfl, .inl ⟨_, HP2.out.symm, rfl, (H0.out.under HT.out).trans (hb4.mono HST.out.baseLe)⟩⟩
          · have b3 : ((xs.length : Int) == 3) = false := by simp; omega
            have hpc := HPC0.out
            rw [call_rest h3] at hpc
            have HPC := Lib.hid hpc
            have has : a' + 1 < ts.length := h1
            have hx3 : xs.length + 1 ≤ 3 := by omega
            clear hst3 hpc h3 h1 HPC0
            have hpc := HPC.out
            have hR2 : ∃ R2, par ts f' (.bin true (a' + 1) d (ps'.map Prod.snd)) = some R2 := by
              cases e : par ts f' (.bin true (a' + 1) d (ps'.map Prod.snd)) with
              | none => rw [e] at hpc; cases hpc
              | some R2 => exact ⟨R2, rfl⟩
            obtain ⟨R2, hR2⟩ := hR2
            rw [hR2] at hpc
            have HGD := Lib.hid (par_good HTS.out.ok.ends f' (.bin true (a' + 1) d (ps'.map Prod.snd)) _ has hR2)
            have HCL := Lib.hid (IH.out f' (by omega) W3 base S c (a' + 1) d nc' A NA' ts ps' x3 R2 HTS.out HST.out hls has hd hR2)
            have HPC2 := Lib.hid hpc
            clear hpc hR2 HPC
            go_wp2_with fail
            refine HCL.out.mono ?_
            rintro e w4 hpp
            clear HCL
            cases R2 with
            | bad o1 =>
              obtain ⟨rfl, hb⟩ := hpp
              have hp2 := HPC2.out
              injection hp2 with hp2
              exact ⟨rfl, .inl ⟨o1, hp2.symm, rfl, (H0.out.under HT.out).trans hb⟩⟩
            | ok r1 a1 ns1 =>
              obtain ⟨rfl, NA1, nc1, ps1, hps1, hst4, ht4, hn4, hl4, hf4⟩ := hpp
              subst hps1
              have hg := HGD.out _ _ _ rfl
              simp only [atM] at hg
              have hag4 := HAG.out.step ht4 hn4 hf4
              have hT4 := turn_chain HT.out HN.out ht4
              have hN4 := newN_trans HT.out.size HN.out hn4
              have hF4 := FrA.trans HF.out HT.out.size hf4
              have hbA : Below w4.heap.size w4 (w4.alloc (.cells #[.int .i64 (r1 : Nat)] 3)) := by go_grown
              have hst5 := hst4.later hbA
              have hag5 := hag4.later hbA
              have hT5 : Turn (TS S NA) w (w4.alloc (.cells #[.int .i64 (r1 : Nat)] 3)) := hT4.trans (Turn.of_later hbA)
              have HST5 := Lib.hid hst5
              have HAG5 := Lib.hid hag5
              have HT5 := Lib.hid hT5
              have HN4 := Lib.hid hN4
              have HF4 := Lib.hid hF4
              have hbs : base ≤ (w4.alloc (.cells #[.int .i64 (r1 : Nat)] 3)).heap.size := hst5.baseLe
              clear hst4 ht4 hn4 hf4 hag4 hT4 hN4 hF4 hbA hst5 hag5 hT5
              go_wp2_with (at_builtin; refine wpList_app1_atP _ rfl _ _ 69 rfl base 3 (.int .i64 0) 8 Tryz.underlying69 infoInt rfl (.slice GA xs.length gc) xs.length (xs.map I64) (by rfl) HAG5.out.own w4.heap.size (.int .i64 (r1 : Nat)) (by rfl) (by first | rfl | simp) (by rfl) (by first | (unfold maxLen; omega) | (unfold maxLen; simp)) (by first | omega | simp) hbs ?_)
              intro v6 w6 ho6 hg6 hat6
              obtain ⟨GA6, gc6, rfl⟩ := own_shape ho6
              have ht6 := turn_argA hg6
              have hst6 := HST5.out.argT HAG5.out ht6
              have hag6 : ArgS w w6 base S NA1 ps1 GA6 gc6 (xs ++ [(r1 : Int)]) := HAG5.out.appQ HST5.out HT5.out.size (show w6.ownsRow base 3 1 (.slice GA6 (xs ++ [(r1 : Int)]).length gc6) (xs ++ [(r1 : Int)]).length ((xs ++ [(r1 : Int)]).map I64) by
                rw [List.length_append, List.map_append]; exact ho6) (by
                rw [own_blk, own_blk] at hat6
                simpa using hat6)
              have hT6 : Turn (TS S NA) w w6 := HT5.out.newer ht6 HAG5.out.new
              have hx6 : (xs ++ [(r1 : Int)]).length = xs.length + 1 := by simp
              have hrel : ∃ (f' a' : Nat) (NA' : Option Addr) (nc' : Nat) (ps' : List PN) (zs : List Int) (GA : Option Addr) (gc : Nat), f' ≤ f0 + 1 ∧ Value.slice GA6 (xs.length + 1) gc6 = .slice GA zs.length gc ∧ restP ts f' nm zs a' d (ps'.map Prod.snd) = some R ∧ PSq w6 base S A c a' ts NA' nc' ps' x3 ∧ Turn (TS S NA) w w6 ∧ NewN w NA NA' ∧ ps'.length ≤ 60 ∧ a' < ts.length ∧ FrA w ps ps' ∧ ArgS w w6 base S NA' ps' GA gc zs ∧ zs.length ≤ 3 :=
                ⟨f', a1, NA1, nc1, ps1, xs ++ [(r1 : Int)], GA6, gc6, by omega, by rw [hx6], HPC2.out, hst6, hT6, HN4.out, hl4, hg.1, HF4.out, hag6, by first | omega | simp⟩
              have HREL := Lib.hid hrel
              have HMS : Hid (leftQ S ts.length w6 < ts.length + 1 - (a' + 1)) := Lib.hid (by rw [leftQ_good hst6]; omega)
              clear ho6 hg6 hat6 ht6 hst6 hag6 hT6 hx6 hrel HST5 HAG5 HT5 HN4 HF4 hg hbs HPC2 HGD HST HT HN HF HAG
              go_wp2_with fail
              go_roundw
              case rel => exact HREL.out
              case measure =>
                show leftQ S ts.length w6 < leftQ S ts.length wr
                rw [HLW.out]
                exact Nat.lt_trans HMS.out (by omega)
        · rw [if_neg s2] at hpc
          rw [decide_eq_false s2] at hse
          have HSE := Lib.hid hse
          have HPC := Lib.hid hpc
          clear hse s2 hpc
          go_wp2_with fail
          refine HSE.out.mono ?_
          rintro e w2 ⟨rfl, hb2⟩
          have hst2 := HST.out.later hb2
          have HT2 := Lib.hid (HT.out.trans (Turn.of_later hb2))
          have HAG2 := Lib.hid (HAG.out.later hb2)
          have HST2 := Lib.hid hst2
          clear hb2 HSE HT HAG HST
          have hpc := HPC.out
          by_cases s3 : symA ts a' = ⟨#[41]⟩
          · rw [if_pos s3] at hpc
            injection hpc with hpc
            have HEX := Lib.hid (expect_yes 41 S c a' A ts (.slice NA' ps'.length nc') x3 w2 hst2.box hst2.rows ha' hst2.lt HTS.out.ok.len (by decide) (HTS.out.form a' ha') s3)
            have HP2 := Lib.hid hpc
            clear hst2 hpc s3 HPC
            go_wp2_with fail
            refine HEX.out.mono ?_
            rintro e w3 ⟨rfl, ht3, hm3⟩
            have HST3 := Lib.hid (HST2.out.turned (a' := a' + 1) ht3 hm3)
            have HAG3 := Lib.hid (HAG2.out.step (ht3.mono fun k e => .inl e) (newN_refl w2 NA') (FrA.refl w2 ps'))
            have HT3 := Lib.hid (turn_chain HT2.out HN.out (ht3.mono fun k e => .inl e))
            clear ht3 hm3 HST2 HAG2 HT2 HEX
            go_wp2_with fail
            go_ret
            exact .inr ⟨xs, GA, gc, a', NA', nc', ps', rfl, HP2.out.symm, HST3.out, HT3.out, HN.out, hls, HF.out, HAG3.out, ha'⟩
          · rw [if_neg s3] at hpc
            injection hpc with hpc
            have HEX := Lib.hid (expect_no 41 S c a' A ts (.slice NA' ps'.length nc') x3 w2 hst2.box hst2.rows ha' hst2.lt HTS.out.ok.len (by decide) (HTS.out.form a' ha') s3)
            have HP2 := Lib.hid hpc
            clear hst2 hpc s3 HPC
            go_wp2_with fail
            refine HEX.out.mono ?_
            rintro e w3 ⟨rfl, hb3⟩
            exact ⟨rfl, .inl ⟨_, HP2.out.symm, rfl, (H0.out.under HT2.out).trans (hb3.mono HST2.out.baseLe)⟩⟩
end Go.Proofs.YtkbdnjhgcoihhaaGreatDoor
