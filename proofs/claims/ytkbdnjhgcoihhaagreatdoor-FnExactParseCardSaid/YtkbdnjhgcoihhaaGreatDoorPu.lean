/- The model's parser: factors. -/
import Derived.Test.YtkbdnjhgcoihhaaGreatDoorProg
import Derived.Test.YtkbdnjhgcoihhaaGreatDoorInts
import Derived.Test.YtkbdnjhgcoihhaaGreatDoorVbox
import Derived.Test.YtkbdnjhgcoihhaaGreatDoorHeld
import Derived.Test.YtkbdnjhgcoihhaaGreatDoorMem
import Derived.Test.YtkbdnjhgcoihhaaGreatDoorFlat
import Derived.Test.YtkbdnjhgcoihhaaGreatDoorRowC
import Derived.Test.YtkbdnjhgcoihhaaGreatDoorKS
import Derived.Test.YtkbdnjhgcoihhaaGreatDoorStrS
import Derived.Test.YtkbdnjhgcoihhaaGreatDoorIntS
import Derived.Test.YtkbdnjhgcoihhaaGreatDoorSS
import Derived.Test.YtkbdnjhgcoihhaaGreatDoorTok
import Derived.Test.YtkbdnjhgcoihhaaGreatDoorPg
import Derived.Test.YtkbdnjhgcoihhaaGreatDoorPh
import Derived.Test.YtkbdnjhgcoihhaaGreatDoorPi
import Derived.Test.YtkbdnjhgcoihhaaGreatDoorPk
import Derived.Test.YtkbdnjhgcoihhaaGreatDoorPl
import Derived.Test.YtkbdnjhgcoihhaaGreatDoorPp
import Derived.Test.YtkbdnjhgcoihhaaGreatDoorPq
import Derived.Test.YtkbdnjhgcoihhaaGreatDoorPr
import Derived.Test.YtkbdnjhgcoihhaaGreatDoorPs
import Derived.Test.YtkbdnjhgcoihhaaGreatDoorPt
import Derived.WalkKit
import Derived.WalkSpells
import Derived.WalkLawsBesides
import Derived.Lib.Hide
import Derived.Deep.RegionHeld3
import Derived.Deep.QuietTactic
import Derived.BigQuiet
import Derived.Handy
import Derived.Deep.DeepCutAuto
import Derived.Deep.AppendLies
import Derived.Deep.RegionLaw
namespace Go.Proofs.YtkbdnjhgcoihhaaGreatDoor
open Go.RowKit

section
variable {w w1 w2 : World} {base S : Nat} {A NA NA' : Option Addr} {c a nc : Nat} {ts : List Tk} {ps : List PN} {x3 : Value}
theorem PSt.under (h : PSt w base S A c a ts NA nc ps x3) (ht : Turn (TS S NA) w w1) : Below base w w1 :=
  ht.below (Nat.le_of_lt (Nat.lt_of_le_of_lt h.low h.lt)) (fun k e => by
    rcases e with e | e
    · rw [e]; exact h.low
    · exact (h.nodes.1.lt k (of_blk e)).1)
theorem PPost.up {ps1 : List PN} {R : PR} {e : Ending} (hp : PPost base S A c ts NA' ps1 x3 R w1 e w2) (hb : Below base w w1) (ht : Turn (TS S NA) w w1) (hn : NewN w NA NA') (hf : FrA w ps ps1) : PPost base S A c ts NA ps x3 R w e w2 := by
  cases R with
  | bad o => exact ⟨hp.1, hp.2.1, hb.trans hp.2.2.1, hp.2.2.2⟩
  | ok r a' ns' =>
    obtain ⟨he, NA2, nc2, ps2, h1, h2, h3, h4, h5, h6⟩ := hp
    exact ⟨he, NA2, nc2, ps2, h1, h2, turn_chain ht hn h3, newN_trans ht.size hn h4, h5, hf.trans ht.size h6⟩
/-- a literal of integers beside the state: arguments for the next node -/
theorem PSt.lit (h : PSt w base S A c a ts NA nc ps x3) (xs : List Int) (cs : Array Value) (hc : cs.toList = xs.map I64) (hm : xs.length ≤ maxLen) :
    PSt (w.alloc (.cells cs 3)) base S A c a ts NA nc ps x3 ∧ QO base (w.alloc (.cells cs 3)) (some ⟨w.heap.size, 0, none⟩, xs.length) xs ∧ Apart (some ⟨w.heap.size, 0, none⟩) NA ∧ blk (some ⟨w.heap.size, 0, none⟩) ≠ some S ∧ ∀ i (hi : i < ps.length), Apart (ps[i]).1.1 (some ⟨w.heap.size, 0, none⟩) := by
  have hl : cs.size = xs.length := by
    have := congrArg List.length hc
    simpa using this
  refine ⟨h.later ((Below.refl _ _).alloc (Nat.le_refl _) _), ?_, fun k hk he => ?_, fun he => ?_, fun i hi k hk he => ?_⟩
  · have ho := World.ownsRow_lit w cs xs.length (e := 3) (size := 1) (base := base) (Nat.le_of_lt (Nat.lt_of_le_of_lt h.low h.lt)) hm (by rw [hl]; simp)
    unfold QO
    rw [← hc]
    exact ho
  · have e1 : w.heap.size = k := by injection hk
    have := (h.nodes.1.lt k (of_blk he)).2
    omega
  · have e1 : w.heap.size = S := by injection he
    have := h.lt
    omega
  · have e1 : w.heap.size = k := by injection he
    have := qo_lt (h.nodes.2.1 i hi).1 hk
    omega
theorem PSt.bare : QO base w (none, 0) [] ∧ Apart none NA ∧ blk none ≠ some S ∧ ∀ i (hi : i < ps.length), Apart (ps[i]).1.1 none := by
  exact ⟨World.ownsRow_nil _ _ _ _, (fun k hk => (by cases hk)), (fun he => (by cases he)), (fun i hi k hk he => (by cases he))⟩
end

set_option maxRecDepth 100000 in
set_option maxHeartbeats 8000000 in
theorem sFac_any {f : Nat} (ihf : FacC f) (ihb : BinC f) (ihc : CallC f) : FacC (f + 1) := by
  intro w base S c a d nc A NA ts ps x3 R hT h hn ha hd hp
  have hoff := hT.off
  have hlen := hT.len
  have hends := hT.ends
  simp only [par] at hp
  have IHF := Lib.hid ihf
  have IHB := Lib.hid ihb
  have IHC := Lib.hid ihc
  have HTS := Lib.hid hT
  clear ihf ihb ihc hT
  by_cases hd2 : 64 < d
  · rw [if_pos hd2] at hp
    injection hp with hp
    subst hp
    have hfl := sFail_any S c a A ts (.slice NA ps.length nc) x3 w h.box (h.toks.more h.low) ha
    have H := Lib.hid h
    have HOFF := Lib.hid hoff
    clear h hoff
    go_enter Tryz.func53, Tryz.ntmps53
    go_wp2_with fail
    refine hfl.mono ?_
    rintro e w1 ⟨rfl, ht, hm⟩
    go_wp2_with fail
    go_ret
    exact ⟨⟨0, rfl⟩, HOFF.out _, H.out.under (ht.mono fun k e => .inl e), Nat.lt_of_lt_of_le H.out.lt ht.size, _, _, hm⟩
  · rw [if_neg hd2] at hp
    have hRow := h.toks.more (Nat.le_of_lt (Nat.lt_of_le_of_lt h.low h.lt))
    obtain ⟨b, o, rfl, hbl, hc⟩ := hRow.at ha
    obtain ⟨t0, t1, t2, t3⟩ := tkg_at hc
    have htk := tkA_at ha
    obtain ⟨v, hv⟩ : ∃ v, v = ts[a] := ⟨_, rfl⟩
    rw [← hv] at t0 t1 t2 t3 htk
    obtain ⟨v0, v1, v2, v3⟩ := v
    dsimp only at t0 t1 t2 t3
    have HT : Held w w [(S, [.slice (some ⟨b, o, none⟩) ts.length c, .int .i64 a, .slice NA ps.length nc, x3, .int .i64 (-1)])] := (Held.nil w).cons h.box
    have HC : ∀ W', Held w W' [(S, [.slice (some ⟨b, o, none⟩) ts.length c, .int .i64 a, .slice NA ps.length nc, x3, .int .i64 (-1)])] → W'.cell? ⟨S, 0, none⟩ = some (.slice (some ⟨b, o, none⟩) ts.length c) ∧ W'.cell? ⟨S, 1, none⟩ = some (.int .i64 a) ∧ W'.cell? ⟨b, o + a * 4, none⟩ = some (.int .i64 v0) ∧ W'.cell? ⟨b, o + a * 4 + 1, none⟩ = some (.string v1) ∧ W'.cell? ⟨b, o + a * 4 + 2, none⟩ = some (.int .i64 v2) ∧ W'.cell? ⟨b, o + a * 4 + 3, none⟩ = some (.int .i64 v3) := fun W' h =>
      ⟨(h.box 0).c 0, (h.box 0).c 1, (h.below.cell (p := ⟨b, o + a * 4, none⟩) hbl).trans t0, (h.below.cell (p := ⟨b, o + a * 4 + 1, none⟩) hbl).trans t1, (h.below.cell (p := ⟨b, o + a * 4 + 2, none⟩) hbl).trans t2, (h.below.cell (p := ⟨b, o + a * 4 + 3, none⟩) hbl).trans t3⟩
    have hlt' : (a : Int) < (ts.length : Int) := by omega
    have hge' : (0 : Int) ≤ (a : Int) := by omega
    rw [htk] at hp
    dsimp only at hp
    obtain ⟨y, hy⟩ : ∃ y, y = symA ts a := ⟨_, rfl⟩
    rw [← hy] at hp
    have H0 := Lib.hid h
    have HP := Lib.hid hp
    have HTK := Lib.hid htk
    have HY := Lib.hid hy
    have HOFF := Lib.hid hoff
    have HEN := Lib.hid hends
    clear hRow hc hv htk t0 t1 t2 t3 h hp hy hoff hends
    go_enter Tryz.func53, Tryz.ntmps53
    go_upto_region 3 with fail
    go_cut [5] (fun s wx => ∃ g : Nat, s = .pointer (some ⟨g, 0, none⟩) ∧ Mbox wx g [.int .i64 v0, .string v1, .int .i64 v2, .int .i64 v3] ∧ Held w wx [(S, [.slice (some ⟨b, o, none⟩) ts.length c, .int .i64 a, .slice NA ps.length nc, x3, .int .i64 (-1)])])
    case first =>
      have hsz := HT.size
      go_region_held3 (fun W' => W'.cell? ⟨S, 0, none⟩ = some (.slice (some ⟨b, o, none⟩) ts.length c) ∧ W'.cell? ⟨S, 1, none⟩ = some (.int .i64 a) ∧ W'.cell? ⟨b, o + a * 4, none⟩ = some (.int .i64 v0) ∧ W'.cell? ⟨b, o + a * 4 + 1, none⟩ = some (.string v1) ∧ W'.cell? ⟨b, o + a * 4 + 2, none⟩ = some (.int .i64 v2) ∧ W'.cell? ⟨b, o + a * 4 + 3, none⟩ = some (.int .i64 v3))
        (first | (with_reducible exact HC _ HT) | (with_reducible exact HC _ HT.drew) | (with_reducible exact HC _ (HT.alloc _)) | (with_reducible exact HC _ (HT.alloc _).drew) | (with_reducible exact HC _ (HT.far4 (by omega) (by simp <;> omega) _ _ _ _)))
        (fail)
      all_goals (go_wp2_with fail; go_meet)
      all_goals (first | with_reducible exact ⟨_, rfl, Mbox.new4 _ _ _ _ _ _, HT.alloc _⟩ | with_reducible exact ⟨_, rfl, (Mbox.new4 _ _ _ _ _ _).drew, (HT.alloc _).drew⟩ | with_reducible exact ⟨_, rfl, Mbox.new4 _ _ _ _ _ _, HT.drew.alloc _⟩ | with_reducible exact ⟨_, rfl, (Mbox.new4 _ _ _ _ _ _).drew, (HT.drew.alloc _).drew⟩)
    case rest =>
      clear HC
      obtain ⟨g, rfl, HV, HTx⟩ := hcut
      have hst := H0.out.later HTx.below
      have hb0 := HTx.below
      have hT0 : Turn (TS S NA) w wc := Turn.of_later hb0
      clear HT HTx
      have hpk := sPeek_any S c a _ ts _ _ _ wc hst.box (hst.toks.more (Nat.le_of_lt (Nat.lt_of_le_of_lt hst.low hst.lt))) ha
      rw [← HY.out] at hpk
      have HS := Lib.hid hst
      have HB0 := Lib.hid hb0
      have HT0 := Lib.hid hT0
      have HPK := Lib.hid hpk
      clear hst hb0 hT0 hpk
      by_cases s1 : y = ⟨#[45]⟩
      · have b1 : (y.toList == [45]) = true := by rw [str_is]; exact decide_eq_true s1
        have h1 := sym_next HEN.out ha (HY.out.symm.trans s1) (by decide)
        have hp := HP.out
        rw [if_pos s1] at hp
        cases hR1 : par ts f (.fac (a + 1) (d + 1) (ps.map Prod.snd)) with
        | none => rw [hR1] at hp; cases hp
        | some R1 =>
          rw [hR1] at hp
          have hgood := par_good HEN.out f (.fac (a + 1) (d + 1) (ps.map Prod.snd)) _ h1 hR1
          have HPP := Lib.hid hp
          clear hp HP HY HTK HV s1
          go_wp2_with fail
          refine HPK.out.mono ?_
          rintro e w1 ⟨rfl, hb1⟩
          have hst1 := HS.out.later hb1
          have c1 := hst1.box.c 1
          have f1 := hst1.box.f 1
          have hnx := hst1.next (a' := a + 1)
          have e1 : ((a + 1 : Nat) : Int) = (a : Int) + 1 := by omega
          rw [e1] at hnx
          have hcl := IHF.out _ base S c (a + 1) (d + 1) nc _ NA ts ps x3 R1 HTS.out hnx hn h1 (by omega) hR1
          rw [show ((d + 1 : Nat) : Int) = (d : Int) + 1 by omega] at hcl
          have hT1 : Turn (TS S NA) w (w1.setCell ⟨S, 1, none⟩ (.int .i64 ((a : Int) + 1))) := (HT0.out.trans (Turn.of_later hb1)).setCell (g := S) (i := 1) (.inl rfl) _
          have HT1 := Lib.hid hT1
          have HCL := Lib.hid hcl
          have HE1 := Lib.hid e1
          have HGD := Lib.hid hgood
          have HSZ1 : Hid (base ≤ (w1.setCell ⟨S, 1, none⟩ (.int .i64 ((a : Int) + 1))).heap.size) := Lib.hid (Nat.le_of_lt (Nat.lt_of_le_of_lt hnx.low hnx.lt))
          clear hb1 hst1 hnx hcl hT1 HS HT0 HPK HB0 e1 hgood hR1 IHF IHB IHC
          go_wp2_with fail
          refine HCL.out.mono ?_
          rintro e w2 hpp
          clear HCL c1 f1
          cases R1 with
          | bad o1 =>
            obtain ⟨⟨v1, rfl⟩, hz0, hz1, hz2, x1, x2, hz3⟩ := hpp
            have c4 := hz3.c 4
            have hp2 := HPP.out
            injection hp2 with hp2
            subst hp2
            have HZ := Lib.hid (PPost.up (base := base) (S := S) (A := some ⟨b, o, none⟩) (c := c) (ts := ts) (NA := NA) (NA' := NA) (ps := ps) (ps1 := ps) (x3 := x3) (R := .bad o1) (e := .returned (.int .i64 0)) ⟨⟨0, rfl⟩, hz0, hz1, hz2, x1, x2, hz3⟩ (H0.out.under HT1.out) HT1.out (newN_refl w NA) (FrA.refl w ps))
            clear hz1 hz2 hz3
            go_wp2_with fail
            go_ret
            exact HZ.out
          | ok r1 a1 ns1 =>
            obtain ⟨rfl, NA1, nc1, ps1, hps1, hst2, ht2, hn2, hl2, hf2⟩ := hpp
            subst hps1
            have hg := HGD.out _ _ _ rfl
            simp only [atM] at hg
            obtain ⟨a2, rfl⟩ : ∃ a2, a1 = a2 + 1 := ⟨a1 - 1, by omega⟩
            have c4 := hst2.box.c 4
            have hlit := hst2.lit [(r1 : Int)] #[.int .i64 r1] rfl (by unfold maxLen; simp)
            have hem := emit_any ((some ⟨w2.heap.size, 0, none⟩, 1), (3, ⟨#[]⟩, 0, [(r1 : Int)])) _ hlit.1 (by omega) HTS.out.len HTS.out.off hl2 hlit.2.1 hlit.2.2.1 hlit.2.2.2.1 hlit.2.2.2.2
            have hp2 := HPP.out
            injection hp2 with hp2
            have hT3 : Turn (TS S NA) w (w2.alloc (.cells #[.int .i64 r1] 3)) := (turn_chain HT1.out (newN_refl w NA) ht2).trans (Turn.of_later (by go_grown))
            have hn3 : NewN w NA NA1 := newN_trans HT1.out.size (newN_refl w NA) hn2
            have hfq : FrA w ps (ps1 ++ [((some ⟨w2.heap.size, 0, none⟩, 1), (3, ⟨#[]⟩, 0, [(r1 : Int)]))]) := (FrA.trans (FrA.refl w ps) HT1.out.size hf2).add (fun b hb => by
              have e : w2.heap.size = b := by injection hb
              rw [← e]
              exact Nat.le_trans HT1.out.size ht2.size)
            have HFQ := Lib.hid hfq
            clear hfq hf2
            have HT3 := Lib.hid hT3
            have HN3 := Lib.hid hn3
            have HEM := Lib.hid hem
            have HP2 := Lib.hid hp2
            clear hst2 ht2 hn2 hlit hem hp2 hT3 hn3 HT1 HPP hg
            go_wp2_with fail
            refine HEM.out.mono ?_
            rintro e w3 hpp
            have hpp := hpp.up (H0.out.under HT3.out) HT3.out HN3.out HFQ.out
            rw [HP2.out] at hpp
            clear HEM HT3 HN3 HP2 c4
            cases R with
            | bad o1 =>
              obtain ⟨⟨v1, rfl⟩, hz⟩ := hpp
              go_wp2_with fail
              go_ret
              exact ⟨⟨v1, rfl⟩, hz⟩
            | ok r1 a1 ns1 =>
              obtain ⟨rfl, hz⟩ := hpp
              go_wp2_with fail
              go_ret
              exact ⟨rfl, hz⟩
      · have b1 : (y.toList == [45]) = false := by rw [str_is]; exact decide_eq_false s1
        have hp := HP.out
        rw [if_neg s1] at hp
        have HP1 := Lib.hid hp
        clear hp HP s1
        go_wp2_with fail
        refine HPK.out.mono ?_
        rintro e w1 ⟨rfl, hb1⟩
        have hst1 := HS.out.later hb1
        have hm1 := HV.later hb1
        have hpk2 := sPeek_any S c a _ ts _ _ _ w1 hst1.box (hst1.toks.more (Nat.le_of_lt (Nat.lt_of_le_of_lt hst1.low hst1.lt))) ha
        rw [← HY.out] at hpk2
        have HS1 := Lib.hid hst1
        have HT1 := Lib.hid (HT0.out.trans (Turn.of_later hb1))
        have HV1 := Lib.hid hm1
        have HPK2 := Lib.hid hpk2
        clear hb1 hst1 hm1 hpk2 HS HT0 HV HPK HB0
        by_cases s2 : y = ⟨#[40]⟩
        · have b2 : (y.toList == [40]) = true := by rw [str_is]; exact decide_eq_true s2
          have h1 := sym_next HEN.out ha (HY.out.symm.trans s2) (by decide)
          have hp := HP1.out
          rw [if_pos s2] at hp
          cases hR1 : par ts f (.bin true (a + 1) (d + 1) (ps.map Prod.snd)) with
          | none => rw [hR1] at hp; cases hp
          | some R1 =>
            rw [hR1] at hp
            have hgood := par_good HEN.out f (.bin true (a + 1) (d + 1) (ps.map Prod.snd)) _ h1 hR1
            have HPP := Lib.hid hp
            clear hp HP1 HY HTK HV1 s2
            go_wp2_with fail
            refine HPK2.out.mono ?_
            rintro e w2 ⟨rfl, hb2⟩
            have hst2 := HS1.out.later hb2
            have c1 := hst2.box.c 1
            have f1 := hst2.box.f 1
            have hnx := hst2.next (a' := a + 1)
            have e1 : ((a + 1 : Nat) : Int) = (a : Int) + 1 := by omega
            rw [e1] at hnx
            have hcl := sExpr_any IHB.out _ base S c (a + 1) (d + 1) nc _ NA ts ps x3 R1 HTS.out hnx hn h1 (by omega) hR1
            rw [show ((d + 1 : Nat) : Int) = (d : Int) + 1 by omega] at hcl
            have hT2 : Turn (TS S NA) w (w2.setCell ⟨S, 1, none⟩ (.int .i64 ((a : Int) + 1))) := (HT1.out.trans (Turn.of_later hb2)).setCell (g := S) (i := 1) (.inl rfl) _
            have HT2 := Lib.hid hT2
            have HCL := Lib.hid hcl
            have HGD := Lib.hid hgood
            clear hb2 hst2 hnx hcl hT2 HS1 HT1 HPK2 e1 hgood hR1 IHF IHB IHC
            go_wp2_with fail
            refine HCL.out.mono ?_
            rintro e w3 hpp
            clear HCL c1 f1
            cases R1 with
            | bad o1 =>
              obtain ⟨⟨v1, rfl⟩, hz0, hz1, hz2, x1, x2, hz3⟩ := hpp
              have c4 := hz3.c 4
              have hp2 := HPP.out
              injection hp2 with hp2
              subst hp2
              have HZ := Lib.hid (PPost.up (base := base) (S := S) (A := some ⟨b, o, none⟩) (c := c) (ts := ts) (NA := NA) (NA' := NA) (ps := ps) (ps1 := ps) (x3 := x3) (R := .bad o1) (e := .returned (.int .i64 0)) ⟨⟨0, rfl⟩, hz0, hz1, hz2, x1, x2, hz3⟩ (H0.out.under HT2.out) HT2.out (newN_refl w NA) (FrA.refl w ps))
              clear hz1 hz2 hz3
              go_wp2_with fail
              go_ret
              exact HZ.out
            | ok r1 a1 ns1 =>
              obtain ⟨rfl, NA1, nc1, ps1, hps1, hst3, ht3, hn3, hl3, hf3⟩ := hpp
              subst hps1
              have hg := HGD.out _ _ _ rfl
              have c4 := hst3.box.c 4
              have hT3 : Turn (TS S NA) w w3 := turn_chain HT2.out (newN_refl w NA) ht3
              have hn4 : NewN w NA NA1 := newN_trans HT2.out.size (newN_refl w NA) hn3
              have HT3 := Lib.hid hT3
              have HN3 := Lib.hid hn4
              have HF3 := Lib.hid (FrA.trans (FrA.refl w ps) HT2.out.size hf3)
              clear hf3
              clear ht3 hn3 hT3 hn4 HT2
              by_cases s3 : symA ts a1 = ⟨#[41]⟩
              · have hex := sExpect_yes S c a1 _ ts _ _ ⟨#[41]⟩ w3 hst3.box hst3.lt (hst3.toks.more hst3.low) hg.1 HTS.out.len s3
                have HS3 := Lib.hid hst3
                have HEX := Lib.hid hex
                have hp2 := HPP.out
                simp only [if_pos s3] at hp2
                injection hp2 with hp2
                have HP2 := Lib.hid hp2
                clear hst3 hex hp2 HPP s3 hg
                go_wp2_with fail
                refine HEX.out.mono ?_
                rintro e w4 ⟨rfl, ht4, hm4⟩
                have hst4 := HS3.out.turned ht4 hm4
                have HZ : Hid (PPost base S (some ⟨b, o, none⟩) c ts NA ps x3 R w (.returned (.int .i64 r1)) w4) := Lib.hid (by
                  rw [← HP2.out]
                  exact ⟨rfl, NA1, nc1, ps1, rfl, hst4, turn_chain HT3.out HN3.out (ht4.mono fun k e => .inl e), HN3.out, hl3, HF3.out⟩)
                clear hst4 ht4 hm4 HEX HS3 HT3 HN3 HP2
                go_wp2_with fail
                go_ret
                exact HZ.out
              · have hex := sExpect_no S c a1 _ ts _ _ ⟨#[41]⟩ w3 hst3.box hst3.lt (hst3.toks.more hst3.low) hg.1 s3
                have HS3 := Lib.hid hst3
                have HEX := Lib.hid hex
                have hp2 := HPP.out
                simp only [if_neg s3] at hp2
                injection hp2 with hp2
                have HP2 := Lib.hid hp2
                clear hst3 hex hp2 HPP s3 hg
                go_wp2_with fail
                refine HEX.out.mono ?_
                rintro e w4 ⟨rfl, ht4, hm4⟩
                have HZ : Hid (PPost base S (some ⟨b, o, none⟩) c ts NA ps x3 R w (.returned (.int .i64 0)) w4) := Lib.hid (by
                  rw [← HP2.out]
                  exact ⟨⟨0, rfl⟩, HOFF.out _, (H0.out.under HT3.out).trans ((HS3.out.under (ht4.mono fun k e => .inl e))), Nat.lt_of_lt_of_le HS3.out.lt ht4.size, _, _, hm4⟩)
                clear ht4 hm4 HEX HS3 HT3 HN3 HP2
                go_wp2_with fail
                go_ret
                exact HZ.out
        · have b2 : (y.toList == [40]) = false := by rw [str_is]; exact decide_eq_false s2
          have hp := HP1.out
          rw [if_neg s2] at hp
          have HP2 := Lib.hid hp
          clear hp HP1 s2
          go_wp2_with fail
          refine HPK2.out.mono ?_
          rintro e w2 ⟨rfl, hb2⟩
          have hst2 := HS1.out.later hb2
          have hm2 := HV1.out.later hb2
          have hgS : g ≠ S := by
            intro e
            subst e
            have q0 := hm2.c 0
            have q1 := hst2.box.c 0
            rw [q0] at q1
            cases q1
          have hTw : Turn (TS S NA) w w2 := HT1.out.trans (Turn.of_later hb2)
          have c1 := hst2.box.c 1
          have f1 := hst2.box.f 1
          have m0 := hm2.c 0
          have m1 := hm2.c 1
          have m2 := hm2.c 2
          have hnx := hst2.next (a' := a + 1)
          have e1 : ((a + 1 : Nat) : Int) = (a : Int) + 1 := by omega
          rw [e1] at hnx
          have hT2 : Turn (TS S NA) w (w2.setCell ⟨S, 1, none⟩ (.int .i64 ((a : Int) + 1))) := hTw.setCell (g := S) (i := 1) (.inl rfl) _
          have HS2 := Lib.hid hst2
          have HTW := Lib.hid hTw
          have HT2 := Lib.hid hT2
          have HNX := Lib.hid hnx
          have HE1 := Lib.hid e1
          have HV2 := Lib.hid hm2
          clear hb2 hst2 hm2 hTw hnx hT2 HS1 HT1 HV1 HPK2 e1
          by_cases k1 : v0 = 1
          · subst k1
            have hp := HP2.out
            rw [if_pos rfl] at hp
            injection hp with hp
            have hba := PSt.bare (w := w2.setCell ⟨S, 1, none⟩ (.int .i64 ((a : Int) + 1))) (base := base) (S := S) (NA := NA) (ps := ps)
            have hem := emit_any ((none, 0), (1, ⟨#[]⟩, v2, [])) _ HNX.out ha HTS.out.len HTS.out.off hn hba.1 hba.2.1 hba.2.2.1 hba.2.2.2
            have HEM := Lib.hid hem
            have HPE := Lib.hid hp
            clear hp hba hem HP2
            go_wp2_with fail
            refine HEM.out.mono ?_
            rintro e w3 hpp
            have hpp := hpp.up (H0.out.under HT2.out) HT2.out (newN_refl w NA) ((FrA.refl w ps).add (fun b hb => by cases hb))
            rw [HPE.out] at hpp
            clear HEM HPE HT2 HNX HS2 HV2 c1 f1 m0 m1 m2
            cases R with
            | bad o1 =>
              obtain ⟨⟨v1, rfl⟩, hz⟩ := hpp
              go_wp2_with fail
              go_ret
              exact ⟨⟨v1, rfl⟩, hz⟩
            | ok r1 a1 ns1 =>
              obtain ⟨rfl, hz⟩ := hpp
              go_wp2_with fail
              go_ret
              exact ⟨rfl, hz⟩
          · have k1' : (v0 == 1) = false := by simpa using k1
            have hp := HP2.out
            rw [if_neg k1] at hp
            by_cases k2 : v0 = 2
            · subst k2
              rw [if_pos rfl] at hp
              have h1 := kind_next HEN.out ha (by rw [HTK.out]; show (2 : Int) ≠ 0; decide)
              have hst3 := HNX.out
              have hpk3 := sPeek_any S c (a + 1) _ ts _ _ _ _ hst3.box (hst3.toks.more (Nat.le_of_lt (Nat.lt_of_le_of_lt hst3.low hst3.lt))) h1
              obtain ⟨z, hz⟩ : ∃ z, z = symA ts (a + 1) := ⟨_, rfl⟩
              rw [← hz] at hp hpk3
              have HPK3 := Lib.hid hpk3
              have HP3 := Lib.hid hp
              have HZ := Lib.hid hz
              clear hst3 hpk3 hp HP2 hz k1
              go_wp2_with fail
              refine HPK3.out.mono ?_
              rintro e w3 ⟨rfl, hb3⟩
              have hst3 := HNX.out.later hb3
              have hm3 := ((HV2.out.far (g := S) (i := 1) (fun e => hgS e) (.int .i64 ((a : Int) + 1))).later hb3)
              have hT3 : Turn (TS S NA) w w3 := HT2.out.trans (Turn.of_later hb3)
              clear c1 f1 m0 m1 m2 HPK3 HT2 HNX HS2 HV2
              have c1 := hst3.box.c 1
              have f1 := hst3.box.f 1
              have m1 := hm3.c 1
              rw [HE1.out] at c1
              by_cases s4 : z = ⟨#[40]⟩
              · have b4 : (z.toList == [40]) = true := by rw [str_is]; exact decide_eq_true s4
                have h2 := sym_next HEN.out h1 (HZ.out.symm.trans s4) (by decide)
                have hp := HP3.out
                rw [if_pos s4] at hp
                have hnx := hst3.next (a' := a + 2)
                have e2 : ((a + 2 : Nat) : Int) = (a : Int) + 1 + 1 := by omega
                rw [e2] at hnx
                have hcl := IHC.out _ base S c (a + 2) (d + 1) nc _ NA ts ps x3 v1 R HTS.out hnx hn h2 (by omega) hp
                rw [show ((d + 1 : Nat) : Int) = (d : Int) + 1 by omega] at hcl
                have hT4 : Turn (TS S NA) w (w3.setCell ⟨S, 1, none⟩ (.int .i64 ((a : Int) + 1 + 1))) := hT3.setCell (g := S) (i := 1) (.inl rfl) _
                have HT4 := Lib.hid hT4
                have HCL := Lib.hid hcl
                clear hp hnx e2 hcl hT4 hT3 hm3 hst3 HP3 HZ s4 hb3 IHF IHB IHC
                go_wp2_with fail
                refine HCL.out.mono ?_
                rintro e w4 hpp
                have hpp := hpp.up (H0.out.under HT4.out) HT4.out (newN_refl w NA) (FrA.refl w ps)
                clear HCL HT4 c1 f1 m1
                cases R with
                | bad o1 =>
                  obtain ⟨⟨v1, rfl⟩, hz⟩ := hpp
                  go_wp2_with fail
                  go_ret
                  exact ⟨⟨v1, rfl⟩, hz⟩
                | ok r1 a1 ns1 =>
                  obtain ⟨rfl, hz⟩ := hpp
                  go_wp2_with fail
                  go_ret
                  exact ⟨rfl, hz⟩
              · have b4 : (z.toList == [40]) = false := by rw [str_is]; exact decide_eq_false s4
                have hp := HP3.out
                rw [if_neg s4] at hp
                injection hp with hp
                have hba := PSt.bare (w := w3) (base := base) (S := S) (NA := NA) (ps := ps)
                have hem := emit_any ((none, 0), (2, v1, 0, [])) _ hst3 ha HTS.out.len HTS.out.off hn hba.1 hba.2.1 hba.2.2.1 hba.2.2.2
                have HEM := Lib.hid hem
                have HPE := Lib.hid hp
                have HT3 := Lib.hid hT3
                clear hp hba hem HP3 hst3 hT3 hm3 hb3 s4 HZ
                go_wp2_with fail
                refine HEM.out.mono ?_
                rintro e w4 hpp
                have hpp := hpp.up (H0.out.under HT3.out) HT3.out (newN_refl w NA) ((FrA.refl w ps).add (fun b hb => by cases hb))
                rw [HPE.out] at hpp
                clear HEM HPE HT3 c1 f1 m1
                cases R with
                | bad o1 =>
                  obtain ⟨⟨v1, rfl⟩, hz⟩ := hpp
                  go_wp2_with fail
                  go_ret
                  exact ⟨⟨v1, rfl⟩, hz⟩
                | ok r1 a1 ns1 =>
                  obtain ⟨rfl, hz⟩ := hpp
                  go_wp2_with fail
                  go_ret
                  exact ⟨rfl, hz⟩
            · have k2' : (v0 == 2) = false := by simpa using k2
              rw [if_neg k2] at hp
              injection hp with hp
              have hst3 := HS2.out
              have hfl := sFail_any S c a _ ts _ x3 w2 hst3.box (hst3.toks.more hst3.low) ha
              have HFL := Lib.hid hfl
              have HPE := Lib.hid hp
              clear hst3 hfl hp HP2 k1 k2
              go_wp2_with fail
              refine HFL.out.mono ?_
              rintro e w3 ⟨rfl, ht3, hm3⟩
              have HZ : Hid (PPost base S (some ⟨b, o, none⟩) c ts NA ps x3 R w (.returned (.int .i64 0)) w3) := Lib.hid (by
                rw [← HPE.out]
                exact ⟨⟨0, rfl⟩, HOFF.out _, (H0.out.under HTW.out).trans (HS2.out.under (ht3.mono fun k e => .inl e)), Nat.lt_of_lt_of_le HS2.out.lt ht3.size, _, _, hm3⟩)
              clear ht3 hm3 c1 f1 m0 m1 m2 HFL HPE HT2 HTW HNX HS2 HV2
              go_wp2_with fail
              go_ret
              exact HZ.out
end Go.Proofs.YtkbdnjhgcoihhaaGreatDoor
