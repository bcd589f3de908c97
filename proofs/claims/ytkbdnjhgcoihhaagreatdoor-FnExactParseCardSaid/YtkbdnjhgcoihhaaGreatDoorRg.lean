/- The program's parser: names and calls, factors. -/
import Derived.Test.YtkbdnjhgcoihhaaGreatDoorProg
import Derived.Test.YtkbdnjhgcoihhaaGreatDoorInts
import Derived.Test.YtkbdnjhgcoihhaaGreatDoorVbox
import Derived.Test.YtkbdnjhgcoihhaaGreatDoorHeld
import Derived.Test.YtkbdnjhgcoihhaaGreatDoorMem
import Derived.Test.YtkbdnjhgcoihhaaGreatDoorFlat
import Derived.Test.YtkbdnjhgcoihhaaGreatDoorRowC
import Derived.Test.YtkbdnjhgcoihhaaGreatDoorKS
import Derived.Test.YtkbdnjhgcoihhaaGreatDoorStrS
import Derived.Test.YtkbdnjhgcoihhaaGreatDoorIntS
import Derived.Test.YtkbdnjhgcoihhaaGreatDoorSS
import Derived.Test.YtkbdnjhgcoihhaaGreatDoorTok
import Derived.Test.YtkbdnjhgcoihhaaGreatDoorPg
import Derived.Test.YtkbdnjhgcoihhaaGreatDoorPh
import Derived.Test.YtkbdnjhgcoihhaaGreatDoorPi
import Derived.Test.YtkbdnjhgcoihhaaGreatDoorPk
import Derived.Test.YtkbdnjhgcoihhaaGreatDoorPl
import Derived.Test.YtkbdnjhgcoihhaaGreatDoorPp
import Derived.Test.YtkbdnjhgcoihhaaGreatDoorPq
import Derived.Test.YtkbdnjhgcoihhaaGreatDoorPr
import Derived.Test.YtkbdnjhgcoihhaaGreatDoorPs
import Derived.Test.YtkbdnjhgcoihhaaGreatDoorPt
import Derived.Test.YtkbdnjhgcoihhaaGreatDoorPu
import Derived.Test.YtkbdnjhgcoihhaaGreatDoorPv
import Derived.Test.YtkbdnjhgcoihhaaGreatDoorPw
import Derived.Test.YtkbdnjhgcoihhaaGreatDoorTp
import Derived.Test.YtkbdnjhgcoihhaaGreatDoorShelf
import Derived.Test.YtkbdnjhgcoihhaaGreatDoorRa
import Derived.Test.YtkbdnjhgcoihhaaGreatDoorRb
import Derived.Test.YtkbdnjhgcoihhaaGreatDoorRc
import Derived.Test.YtkbdnjhgcoihhaaGreatDoorRd
import Derived.Test.YtkbdnjhgcoihhaaGreatDoorRe
import Derived.Test.YtkbdnjhgcoihhaaGreatDoorRf
import Derived.WalkKit
import Derived.WalkSpells
import Derived.WalkLawsBesides
import Derived.Lib.Hide
import Derived.Deep.RegionHeld3
import Derived.Deep.QuietTactic
import Derived.BigQuiet
import Derived.Handy
import Derived.Deep.DeepCutAuto
namespace Go.Proofs.YtkbdnjhgcoihhaaGreatDoor
open Go.RowKit

theorem sym_kind {ts : List Tk} {a : Nat} (h : (tkA ts a).1 ≠ 3) : symA ts a = ⟨#[]⟩ := by unfold symA; rw [if_neg h]
theorem ite_no {p : Prop} [Decidable p] {α : Type} {x y : α} (h : ¬ p) : (if p then x else y) = y := if_neg h

set_option maxRecDepth 100000 in
set_option maxHeartbeats 8000000 in
theorem name_any {f : Nat} (ih : ArgsC f) (w : World) (base S c a d nc : Nat) (A NA : Option Addr) (ts : List Tk) (ps : List PN) (x3 : Value) (R : PR) (hT : TsG ts) (h : PSq w base S A c a ts NA nc ps x3) (hn : ps.length ≤ 60) (ha : a < ts.length) (hd : d ≤ 64) (hk : (tkA ts a).1 = 2)
    (hp : (if symA ts (a + 1) = ⟨#[40]⟩ then (if symA ts (a + 2) = ⟨#[41]⟩ then some (emitP ts (a + 3) (ps.map Prod.snd) (8, (tkA ts a).2.1, 0, [])) else par ts f (.call (tkA ts a).2.1 [] (a + 2) (d + 1) (ps.map Prod.snd))) else some (emitP ts (a + 1) (ps.map Prod.snd) (2, (tkA ts a).2.1, 0, []))) = some R) :
    Calls Tryz.prog 83 #[.pointer (some ⟨S, 0, none⟩), .int .i64 (d : Nat)] w (PQost base S A c ts NA ps x3 R w) := by
  have h1 := kind_next hT.ok.ends ha (by rw [hk]; decide)
  have hrd := read_any S c a A ts (.slice NA ps.length nc) x3 w h.box h.rows ha h.lt hT.ok.len
  have H0 := Lib.hid h
  have HTS := Lib.hid hT
  have IH := Lib.hid ih
  obtain ⟨v, hv⟩ : ∃ v, v = tkA ts a := ⟨_, rfl⟩
  rw [← hv] at hrd hp
  obtain ⟨v0, v1, v2, v3⟩ := v
  dsimp only [tkv, tok] at hrd hp
  have hfl := fun w => tok_fld1 v0 v2 v3 v1 w
  have HRD := Lib.hid hrd
  have HP := Lib.hid hp
  have hd0 : (d : Int) ≤ 64 := by omega
  clear hrd hp hv hk h hT ih
  go_enter Tryz.func83, Tryz.ntmps83
  go_wp2_with fail
  refine HRD.out.mono ?_
  rintro e w1 ⟨rfl, ht1, hm1⟩
  have hst1 := H0.out.turned (a' := a + 1) ht1 hm1
  have HT1 : Hid (Turn (TS S NA) w w1) := Lib.hid (ht1.mono fun k e => .inl e)
  have hse := sees_any [40] S c (a + 1) A ts (.slice NA ps.length nc) x3 w1 hst1.box hst1.rows h1 hst1.lt (by simp) (by simp) (by decide) (HTS.out.form (a + 1) h1)
  rw [see_one] at hse
  have HST1 := Lib.hid hst1
  clear ht1 hm1 hst1 HRD
  by_cases sc : symA ts (a + 1) = ⟨#[40]⟩
  · have hp := HP.out
    rw [if_pos sc] at hp
    rw [decide_eq_true sc] at hse
    have HSE := Lib.hid hse
    have HSC := Lib.hid sc
    have HPP := Lib.hid hp
    clear hp hse sc HP
    go_wp2_with fail
    refine HSE.out.mono ?_
    rintro e w2 ⟨rfl, hb2⟩
    have hst2 := HST1.out.later hb2
    have hcl := IH.out w2 base S c (a + 1) (d + 1) nc A NA ts ps x3 v1 R HTS.out hst2 hn h1 (by omega) HSC.out HPP.out
    rw [show ((d + 1 : Nat) : Int) = (d : Int) + 1 by omega] at hcl
    have HT2 := Lib.hid (HT1.out.trans (Turn.of_later hb2))
    have HCL := Lib.hid hcl
    clear hb2 hst2 hcl HSE HST1 HT1 HPP hfl
    go_wp2_with fail
    refine HCL.out.mono ?_
    rintro e w3 hpp
    clear HCL
    rcases hpp with ⟨o, rfl, rfl, hb⟩ | ⟨xs, GA, gc, a', NA', nc', ps', rfl, hRE, hst3, ht3, hn3, hl3, hf3, hag3, ha3⟩
    · exact ⟨rfl, rfl, (H0.out.under HT2.out).trans hb⟩
    · have hem := add_any ((GA, gc), (8, v1, 0, xs)) w3 hst3 ha3 HTS.out.ok.len hl3 hag3.own hag3.apN hag3.apS (fun i hi => hag3.apA _ (List.getElem_mem hi))
      have HEM := Lib.hid hem
      have HT3 := Lib.hid (turn_chain HT2.out (newN_refl w NA) ht3)
      have HN3 := Lib.hid (newN_trans HT2.out.size (newN_refl w NA) hn3)
      have HFQ := Lib.hid ((FrA.trans (FrA.refl w ps) HT2.out.size hf3).add (q := ((GA, gc), (8, v1, 0, xs))) (fun b hb => Nat.le_trans HT2.out.size (hag3.new b hb)))
      have HRE := Lib.hid hRE
      clear hst3 ht3 hn3 hl3 hf3 hag3 hem hRE
      go_wp2_with fail
      refine HEM.out.mono ?_
      rintro e w4 hpp
      have hpp := hpp.up (H0.out.under HT3.out) HT3.out HN3.out HFQ.out
      rw [← HRE.out] at hpp
      clear HEM HT3 HN3 HFQ HRE
      cases R with
      | bad o1 =>
        obtain ⟨rfl, hz⟩ := hpp
        exact ⟨rfl, rfl, hz⟩
      | ok r1 a1 ns1 =>
        obtain ⟨rfl, hz⟩ := hpp
        go_wp2_with fail
        go_ret
        exact ⟨rfl, hz⟩
  · have hp := HP.out
    rw [if_neg sc] at hp
    rw [decide_eq_false sc] at hse
    injection hp with hp
    have HSE := Lib.hid hse
    have HPP := Lib.hid hp
    clear hp hse sc HP
    go_wp2_with fail
    refine HSE.out.mono ?_
    rintro e w2 ⟨rfl, hb2⟩
    have hst2 := HST1.out.later hb2
    have hba := PSq.bare (w := w2) (base := base) (S := S) (NA := NA) (ps := ps)
    have hem := add_any ((none, 0), (2, v1, 0, [])) w2 hst2 ha HTS.out.ok.len hn hba.1 hba.2.1 hba.2.2.1 hba.2.2.2
    have HT2 := Lib.hid (HT1.out.trans (Turn.of_later hb2))
    have HEM := Lib.hid hem
    clear hb2 hst2 hba hem HSE HST1 HT1 hfl
    go_wp2_with fail
    refine HEM.out.mono ?_
    rintro e w3 hpp
    have hpp := hpp.up (H0.out.under HT2.out) HT2.out (newN_refl w NA) ((FrA.refl w ps).add (fun b hb => by cases hb))
    rw [HPP.out] at hpp
    clear HEM HPP HT2
    cases R with
    | bad o1 =>
      obtain ⟨rfl, hz⟩ := hpp
      exact ⟨rfl, rfl, hz⟩
    | ok r1 a1 ns1 =>
      obtain ⟨rfl, hz⟩ := hpp
      go_wp2_with fail
      go_ret
      exact ⟨rfl, hz⟩

set_option maxRecDepth 100000 in
set_option maxHeartbeats 8000000 in
theorem fac_any {f : Nat} (ihf : FacQ f) (ihe : ExprC f) (iha : ArgsC f) : FacQ (f + 1) := by
  intro w base S c a d nc A NA ts ps x3 R hT h hn ha hd hp
  simp only [par] at hp
  have IHF := Lib.hid ihf
  have IHE := Lib.hid ihe
  have IHA := Lib.hid iha
  have HTS := Lib.hid hT
  have H0 := Lib.hid h
  clear ihf ihe iha hT
  by_cases hd2 : 64 < d
  · rw [if_pos hd2] at hp
    injection hp with hp
    have HP := Lib.hid hp
    have HRJ := Lib.hid (reject_any S c a A ts (.slice NA ps.length nc) x3 w h.box h.rows ha h.lt)
    have hdI : (64 : Int) < (d : Int) := by omega
    clear h hp hd2
    go_enter Tryz.func67, Tryz.ntmps67
    go_wp2_with fail
    refine HRJ.out.mono ?_
    rintro e w1 ⟨rfl, hb⟩
    rw [← HP.out]
    exact ⟨rfl, rfl, hb.mono H0.out.baseLe⟩
  · rw [if_neg hd2] at hp
    have hdI : ¬ (64 : Int) < (d : Int) := by omega
    have hpk := peek_any S c a A ts (.slice NA ps.length nc) x3 w h.box h.rows ha h.lt
    have hpk2 := fun w1 (hb : Below w.heap.size w w1) => peek_any S c a A ts (.slice NA ps.length nc) x3 w1 (h.later hb).box (h.later hb).rows ha (h.later hb).lt
    have hrd := fun w1 (hb : Below w.heap.size w w1) => read_any S c a A ts (.slice NA ps.length nc) x3 w1 (h.later hb).box (h.later hb).rows ha (h.later hb).lt HTS.out.ok.len
    have hsk : (tkA ts a).1 ≠ 3 → symA ts a = ⟨#[]⟩ := sym_kind
    obtain ⟨v, hv⟩ : ∃ v, v = tkA ts a := ⟨_, rfl⟩
    rw [← hv] at hpk hsk hp
    have hpk2 : ∀ w1, Below w.heap.size w w1 → Calls Tryz.prog 15 #[.pointer (some ⟨S, 0, none⟩)] w1 fun e w' => e = .returned (tkv v) ∧ Below w1.heap.size w1 w' := fun w1 hb => by rw [hv]; exact hpk2 w1 hb
    have hrd : ∀ w1, Below w.heap.size w w1 → Calls Tryz.prog 29 #[.pointer (some ⟨S, 0, none⟩)] w1 fun e w' => e = .returned (tkv v) ∧ Turn (fun k => k = S) w1 w' ∧ Mbox w' S [.slice A ts.length c, .int .i64 ((a + 1 : Nat) : Int), .slice NA ps.length nc, x3] := fun w1 hb => by rw [hv]; exact hrd w1 hb
    have HV := Lib.hid hv
    obtain ⟨v0, v1, v2, v3⟩ := v
    dsimp only [tkv, tok] at hpk hpk2 hrd hsk hp
    have hfl0 := fun w => tok_fld0 v0 v2 v3 v1 w
    have hfl2 := fun w => tok_fld2 v0 v2 v3 v1 w
    have HPK := Lib.hid hpk
    have HPK2 := Lib.hid hpk2
    have HRD := Lib.hid hrd
    have HP := Lib.hid hp
    have HSK := Lib.hid hsk
    clear h hp hpk hpk2 hrd hsk hv hd2
    go_enter Tryz.func67, Tryz.ntmps67
    go_wp2_with fail
    refine HPK.out.mono ?_
    rintro e w1 ⟨rfl, hb1⟩
    have HB1 := Lib.hid hb1
    clear hb1 HPK
    by_cases k1 : v0 = 1
    · have k1' : (v0 == 1) = true := by simpa using k1
      have hp := HP.out
      rw [HSK.out (by omega), ite_no (by decide), ite_no (by decide), if_pos k1] at hp
      injection hp with hp
      have HPP := Lib.hid hp
      have HR1 := Lib.hid (HRD.out w1 HB1.out)
      clear hp k1 HP HSK HPK2 HRD
      go_wp2_with fail
      refine HR1.out.mono ?_
      rintro e w2 ⟨rfl, ht2, hm2⟩
      have hst2 := (H0.out.later HB1.out).turned (a' := a + 1) ht2 hm2
      have hba := PSq.bare (w := w2) (base := base) (S := S) (NA := NA) (ps := ps)
      have hem := add_any ((none, 0), (1, ⟨#[]⟩, v2, [])) w2 hst2 ha HTS.out.ok.len hn hba.1 hba.2.1 hba.2.2.1 hba.2.2.2
      have HT2 : Hid (Turn (TS S NA) w w2) := Lib.hid ((Turn.of_later HB1.out).trans (ht2.mono fun k e => .inl e))
      have HEM := Lib.hid hem
      clear ht2 hm2 hst2 hba hem HR1
      go_wp2_with fail
      refine HEM.out.mono ?_
      rintro e w3 hpp
      have hpp := hpp.up (H0.out.under HT2.out) HT2.out (newN_refl w NA) ((FrA.refl w ps).add (fun b hb => by cases hb))
      rw [HPP.out] at hpp
      clear HEM HPP HT2
      cases R with
      | bad o1 =>
        obtain ⟨rfl, hz⟩ := hpp
        exact ⟨rfl, rfl, hz⟩
      | ok r1 a1 ns1 =>
        obtain ⟨rfl, hz⟩ := hpp
        go_wp2_with fail
        go_ret
        exact ⟨rfl, hz⟩
    · have k1' : (v0 == 1) = false := by simpa using k1
      have HK1 := Lib.hid k1
      clear k1
      go_wp2_with fail
      refine (HPK2.out w1 HB1.out).mono ?_
      rintro e w2 ⟨rfl, hb2⟩
      have HB2 := Lib.hid (HB1.out.trans (hb2.mono HB1.out.size))
      clear hb2 HPK2 HB1
      by_cases k2 : v0 = 2
      · have k2' : (v0 == 2) = true := by simpa using k2
        have hp := HP.out
        rw [HSK.out (by omega), ite_no (by decide), ite_no (by decide), if_neg HK1.out, if_pos k2] at hp
        have hst2 := H0.out.later HB2.out
        have hnm := name_any IHA.out w2 base S c a d nc A NA ts ps x3 R HTS.out hst2 hn ha (by omega) (by rw [← HV.out]; exact k2) (by rw [← HV.out]; exact hp)
        have HNM := Lib.hid hnm
        have HT2 : Hid (Turn (TS S NA) w w2) := Lib.hid (Turn.of_later HB2.out)
        clear hp hst2 hnm k2 HP HSK HRD
        go_wp2_with fail
        refine HNM.out.mono ?_
        rintro e w3 hpp
        have hpp := hpp.up (H0.out.under HT2.out) HT2.out (newN_refl w NA) (FrA.refl w ps)
        clear HNM HT2
        cases R with
        | bad o1 =>
          obtain ⟨rfl, hz⟩ := hpp
          exact ⟨rfl, rfl, hz⟩
        | ok r1 a1 ns1 =>
          obtain ⟨rfl, hz⟩ := hpp
          go_wp2_with fail
          go_ret
          exact ⟨rfl, hz⟩
      · have k2' : (v0 == 2) = false := by simpa using k2
        have hst2 := H0.out.later HB2.out
        have hse := sees_any [45] S c a A ts (.slice NA ps.length nc) x3 w2 hst2.box hst2.rows ha hst2.lt (by simp) (by simp) (by decide) (HTS.out.form a ha)
        rw [see_one] at hse
        have HK2 := Lib.hid k2
        have HST2 := Lib.hid hst2
        clear k2 hst2 HRD hfl2
        by_cases s1 : symA ts a = ⟨#[45]⟩
        · have hp := HP.out
          rw [if_pos s1] at hp
          rw [decide_eq_true s1] at hse
          have h1 := sym_next HTS.out.ok.ends ha s1 (by decide)
          have HSE := Lib.hid hse
          have hR1 : ∃ R1, par ts f (.fac (a + 1) (d + 1) (ps.map Prod.snd)) = some R1 := by
            cases e : par ts f (.fac (a + 1) (d + 1) (ps.map Prod.snd)) with
            | none => rw [e] at hp; cases hp
            | some R1 => exact ⟨R1, rfl⟩
          obtain ⟨R1, hR1⟩ := hR1
          rw [hR1] at hp
          have HGD := Lib.hid (par_good HTS.out.ok.ends f (.fac (a + 1) (d + 1) (ps.map Prod.snd)) _ h1 hR1)
          have HPP := Lib.hid hp
          have HR1 := Lib.hid hR1
          clear hp hse s1 HP HSK hR1
          go_wp2_with fail
          refine HSE.out.mono ?_
          rintro e w3 ⟨rfl, hb3⟩
          have hst3 := HST2.out.later hb3
          have c1 := hst3.box.c 1
          have f1 := hst3.box.f 1
          have hnx := hst3.next (a' := a + 1)
          have e1 : ((a + 1 : Nat) : Int) = (a : Int) + 1 := by omega
          rw [e1] at hnx
          have hT3 : Turn (TS S NA) w (w3.setCell ⟨S, 1, none⟩ (.int .i64 ((a : Int) + 1))) := (Turn.of_later (HB2.out.trans (hb3.mono HB2.out.size))).setCell (g := S) (i := 1) (.inl rfl) _
          have hcl := IHF.out _ base S c (a + 1) (d + 1) nc A NA ts ps x3 R1 HTS.out hnx hn h1 (by omega) HR1.out
          rw [show ((d + 1 : Nat) : Int) = (d : Int) + 1 by omega] at hcl
          have hlb : (a : Int) < 1099511627776 := by have := HTS.out.ok.len; omega
          have hge : (0 : Int) ≤ (a : Int) := by omega
          have hd0 : (d : Int) ≤ 64 := by omega
          have HT3 := Lib.hid hT3
          have HCL := Lib.hid hcl
          clear hb3 hst3 hnx e1 hT3 hcl HSE HST2
          go_wp2_with fail
          refine HCL.out.mono ?_
          rintro e w4 hpp
          clear HCL c1 f1
          cases R1 with
          | bad o1 =>
            obtain ⟨rfl, hb⟩ := hpp
            have hp2 := HPP.out
            injection hp2 with hp2
            rw [← hp2]
            exact ⟨rfl, rfl, (H0.out.under HT3.out).trans hb⟩
          | ok r1 a1 ns1 =>
            obtain ⟨rfl, NA1, nc1, ps1, hps1, hst4, ht4, hn4, hl4, hf4⟩ := hpp
            subst hps1
            have hg := HGD.out _ _ _ rfl
            simp only [atM] at hg
            obtain ⟨a2, rfl⟩ : ∃ a2, a1 = a2 + 1 := ⟨a1 - 1, by omega⟩
            have hlit := hst4.lit [(r1 : Int)] #[.int .i64 r1] rfl (by unfold maxLen; simp)
            have hem := add_any ((some ⟨w4.heap.size, 0, none⟩, 1), (3, ⟨#[]⟩, 0, [(r1 : Int)])) _ hlit.1 (by omega) HTS.out.ok.len hl4 hlit.2.1 hlit.2.2.1 hlit.2.2.2.1 hlit.2.2.2.2
            have hp2 := HPP.out
            injection hp2 with hp2
            have hT5 : Turn (TS S NA) w (w4.alloc (.cells #[.int .i64 r1] 3)) := (turn_chain HT3.out (newN_refl w NA) ht4).trans (Turn.of_later (by go_grown))
            have hn5 : NewN w NA NA1 := newN_trans HT3.out.size (newN_refl w NA) hn4
            have hfq : FrA w ps (ps1 ++ [((some ⟨w4.heap.size, 0, none⟩, 1), (3, ⟨#[]⟩, 0, [(r1 : Int)]))]) := (FrA.trans (FrA.refl w ps) HT3.out.size hf4).add (fun b hb => by
              have e : w4.heap.size = b := by injection hb
              rw [← e]
              exact Nat.le_trans HT3.out.size ht4.size)
            have HFQ := Lib.hid hfq
            have HT5 := Lib.hid hT5
            have HN5 := Lib.hid hn5
            have HEM := Lib.hid hem
            have HP2 := Lib.hid hp2
            clear hst4 ht4 hn4 hf4 hl4 hlit hem hp2 hT5 hn5 hfq HT3 HPP hg
            go_wp2_with fail
            refine HEM.out.mono ?_
            rintro e w5 hpp
            have hpp := hpp.up (H0.out.under HT5.out) HT5.out HN5.out HFQ.out
            rw [HP2.out] at hpp
            clear HEM HT5 HN5 HFQ HP2
            cases R with
            | bad o1 =>
              obtain ⟨rfl, hz⟩ := hpp
              exact ⟨rfl, rfl, hz⟩
            | ok r1 a1 ns1 =>
              obtain ⟨rfl, hz⟩ := hpp
              go_wp2_with fail
              go_ret
              exact ⟨rfl, hz⟩
        · have hp := HP.out
          rw [if_neg s1] at hp
          rw [decide_eq_false s1] at hse
          have HSE := Lib.hid hse
          have HP1 := Lib.hid hp
          clear hp hse s1 HP
          go_wp2_with fail
          refine HSE.out.mono ?_
          rintro e w3 ⟨rfl, hb3⟩
          have hst3 := HST2.out.later hb3
          have HB3 := Lib.hid (HB2.out.trans (hb3.mono HB2.out.size))
          have HST3 := Lib.hid hst3
          clear hb3 HSE HST2
          by_cases s2 : symA ts a = ⟨#[40]⟩
          · have hp := HP1.out
            rw [if_pos s2] at hp
            have h1 := sym_next HTS.out.ok.ends ha s2 (by decide)
            have HEX := Lib.hid (expect_yes 40 S c a A ts (.slice NA ps.length nc) x3 w3 hst3.box hst3.rows ha hst3.lt HTS.out.ok.len (by decide) (HTS.out.form a ha) s2)
            have hR1 : ∃ R1, par ts f (.bin true (a + 1) (d + 1) (ps.map Prod.snd)) = some R1 := by
              cases e : par ts f (.bin true (a + 1) (d + 1) (ps.map Prod.snd)) with
              | none => rw [e] at hp; cases hp
              | some R1 => exact ⟨R1, rfl⟩
            obtain ⟨R1, hR1⟩ := hR1
            rw [hR1] at hp
            have HGD := Lib.hid (par_good HTS.out.ok.ends f (.bin true (a + 1) (d + 1) (ps.map Prod.snd)) _ h1 hR1)
            have HPP := Lib.hid hp
            have HR1 := Lib.hid hR1
            have hd0 : (d : Int) ≤ 64 := by omega
            clear hp s2 HP1 hR1 hst3
            go_wp2_with fail
            refine HEX.out.mono ?_
            rintro e w4 ⟨rfl, ht4, hm4⟩
            have hst4 := HST3.out.turned (a' := a + 1) ht4 hm4
            have HT4 : Hid (Turn (TS S NA) w w4) := Lib.hid ((Turn.of_later HB3.out).trans (ht4.mono fun k e => .inl e))
            have hcl := IHE.out _ base S c (a + 1) (d + 1) nc A NA ts ps x3 R1 HTS.out hst4 hn h1 (by omega) HR1.out
            rw [show ((d + 1 : Nat) : Int) = (d : Int) + 1 by omega] at hcl
            have HCL := Lib.hid hcl
            clear ht4 hm4 hst4 hcl HEX HST3
            go_wp2_with fail
            refine HCL.out.mono ?_
            rintro e w5 hpp
            clear HCL
            cases R1 with
            | bad o1 =>
              obtain ⟨rfl, hb⟩ := hpp
              have hp2 := HPP.out
              injection hp2 with hp2
              rw [← hp2]
              exact ⟨rfl, rfl, (H0.out.under HT4.out).trans hb⟩
            | ok r1 a1 ns1 =>
              obtain ⟨rfl, NA1, nc1, ps1, hps1, hst5, ht5, hn5, hl5, hf5⟩ := hpp
              subst hps1
              have hg := HGD.out _ _ _ rfl
              have hT5 : Turn (TS S NA) w w5 := turn_chain HT4.out (newN_refl w NA) ht5
              have HT5 := Lib.hid hT5
              have HN5 := Lib.hid (newN_trans HT4.out.size (newN_refl w NA) hn5)
              have HF5 := Lib.hid (FrA.trans (FrA.refl w ps) HT4.out.size hf5)
              have HST5 := Lib.hid hst5
              clear ht5 hn5 hf5 hT5 HT4
              have hp2 := HPP.out
              simp only at hp2
              by_cases s3 : symA ts a1 = ⟨#[41]⟩
              · rw [if_pos s3] at hp2
                injection hp2 with hp2
                have HEX := Lib.hid (expect_yes 41 S c a1 A ts (.slice NA1 ps1.length nc1) x3 w5 hst5.box hst5.rows hg.1 hst5.lt HTS.out.ok.len (by decide) (HTS.out.form a1 hg.1) s3)
                have HP2 := Lib.hid hp2
                clear hst5 hp2 s3 hg HPP
                go_wp2_with fail
                refine HEX.out.mono ?_
                rintro e w6 ⟨rfl, ht6, hm6⟩
                have HZ : Hid (PQost base S A c ts NA ps x3 R w (.returned (.int .i64 r1)) w6) := Lib.hid (by
                  rw [← HP2.out]
                  exact ⟨rfl, NA1, nc1, ps1, rfl, HST5.out.turned (a' := a1 + 1) ht6 hm6, turn_chain HT5.out HN5.out (ht6.mono fun k e => .inl e), HN5.out, hl5, HF5.out⟩)
                clear ht6 hm6 HEX HST5 HT5 HN5 HF5 HP2
                go_wp2_with fail
                go_ret
                exact HZ.out
              · rw [if_neg s3] at hp2
                injection hp2 with hp2
                have HEX := Lib.hid (expect_no 41 S c a1 A ts (.slice NA1 ps1.length nc1) x3 w5 hst5.box hst5.rows hg.1 hst5.lt HTS.out.ok.len (by decide) (HTS.out.form a1 hg.1) s3)
                have HP2 := Lib.hid hp2
                clear hst5 hp2 s3 hg HPP
                go_wp2_with fail
                refine HEX.out.mono ?_
                rintro e w6 ⟨rfl, hb6⟩
                rw [← HP2.out]
                exact ⟨rfl, rfl, (H0.out.under HT5.out).trans (hb6.mono HST5.out.baseLe)⟩
          · have hp := HP1.out
            rw [if_neg s2, if_neg HK1.out, if_neg HK2.out] at hp
            injection hp with hp
            have HEX := Lib.hid (expect_no 40 S c a A ts (.slice NA ps.length nc) x3 w3 hst3.box hst3.rows ha hst3.lt HTS.out.ok.len (by decide) (HTS.out.form a ha) s2)
            have HP2 := Lib.hid hp
            clear hst3 hp s2 HP1
            go_wp2_with fail
            refine HEX.out.mono ?_
            rintro e w4 ⟨rfl, hb4⟩
            rw [← HP2.out]
            exact ⟨rfl, rfl, (H0.out.under (Turn.of_later HB3.out)).trans (hb4.mono HST3.out.baseLe)⟩
theorem facQ_zero : FacQ 0 := by
  intro w base S c a d nc A NA ts ps x3 R hT h hn ha hd hp
  simp [par] at hp
theorem opsT_zero : OpsT 0 := by
  intro w base S c a d nc A NA ts ps x3 R hT h hn ha hd hp
  simp [par] at hp
theorem opsF_zero : OpsF 0 := by
  intro w base S c a d nc A NA ts ps x3 R hT h hn ha hd hp
  simp [par] at hp
/-- every part of the program's parser answers as the parser on values -/
theorem partsQ_any : ∀ f, ∀ g, g ≤ f → FacQ g ∧ TermC g ∧ ExprC g := by
  intro f
  induction f with
  | zero =>
    intro g hg
    obtain rfl : g = 0 := by omega
    exact ⟨facQ_zero, term_any opsF_zero, expr_any opsT_zero⟩
  | succ f ih =>
    intro g hg
    rcases Nat.lt_or_ge g (f + 1) with h | h
    · exact ih g (by omega)
    · obtain rfl : g = f + 1 := by omega
      have hc : ArgsC f := args_any fun g hg => (ih g (by omega)).2.2
      exact ⟨fac_any (ih f (Nat.le_refl _)).1 (ih f (Nat.le_refl _)).2.2 hc, term_any (opsF_any fun g hg => (ih g hg).1), expr_any (opsT_any fun g hg => (ih g hg).2.1)⟩
end Go.Proofs.YtkbdnjhgcoihhaaGreatDoor
