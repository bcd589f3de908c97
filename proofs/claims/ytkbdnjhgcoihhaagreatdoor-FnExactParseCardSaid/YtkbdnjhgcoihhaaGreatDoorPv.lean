/- The model's parser: chains of operands. -/
import Derived.Test.YtkbdnjhgcoihhaaGreatDoorProg
import Derived.Test.YtkbdnjhgcoihhaaGreatDoorInts
import Derived.Test.YtkbdnjhgcoihhaaGreatDoorVbox
import Derived.Test.YtkbdnjhgcoihhaaGreatDoorHeld
import Derived.Test.YtkbdnjhgcoihhaaGreatDoorMem
import Derived.Test.YtkbdnjhgcoihhaaGreatDoorFlat
import Derived.Test.YtkbdnjhgcoihhaaGreatDoorRowC
import Derived.Test.YtkbdnjhgcoihhaaGreatDoorKS
import Derived.Test.YtkbdnjhgcoihhaaGreatDoorStrS
import Derived.Test.YtkbdnjhgcoihhaaGreatDoorIntS
import Derived.Test.YtkbdnjhgcoihhaaGreatDoorSS
import Derived.Test.YtkbdnjhgcoihhaaGreatDoorTok
import Derived.Test.YtkbdnjhgcoihhaaGreatDoorPg
import Derived.Test.YtkbdnjhgcoihhaaGreatDoorPh
import Derived.Test.YtkbdnjhgcoihhaaGreatDoorPi
import Derived.Test.YtkbdnjhgcoihhaaGreatDoorPk
import Derived.Test.YtkbdnjhgcoihhaaGreatDoorPl
import Derived.Test.YtkbdnjhgcoihhaaGreatDoorPp
import Derived.Test.YtkbdnjhgcoihhaaGreatDoorPq
import Derived.Test.YtkbdnjhgcoihhaaGreatDoorPr
import Derived.Test.YtkbdnjhgcoihhaaGreatDoorPs
import Derived.Test.YtkbdnjhgcoihhaaGreatDoorPt
import Derived.Test.YtkbdnjhgcoihhaaGreatDoorPu
import Derived.WalkKit
import Derived.WalkSpells
import Derived.WalkLawsBesides
import Derived.Lib.Hide
import Derived.Deep.RegionHeld3
import Derived.Deep.QuietTactic
import Derived.BigQuiet
import Derived.Handy
import Derived.Deep.DeepCutAuto
import Derived.Deep.AppendLies
import Derived.Deep.RegionLaw
namespace Go.Proofs.YtkbdnjhgcoihhaaGreatDoor
open Go.RowKit

/-- what is left of a chain: 0 behind an error, else the tokens -/
def leftB (S n : Nat) (w : World) : Nat :=
  match w.cell? ⟨S, 4, none⟩, w.cell? ⟨S, 1, none⟩ with
  | some (.int _ b), some (.int _ q) => if 0 ≤ b then 0 else n + 1 - q.toNat
  | _, _ => 0
/-- a chain under way: well so far, or an error met -/
def BinInv (f base S : Nat) (A : Option Addr) (c d : Nat) (ts : List Tk) (NA : Option Addr) (ps : List PN) (x3 : Value) (add : Bool) (R : PR) (w : World) (v : Value) (wr : World) : Prop :=
  (∃ (f' l a : Nat) (NA' : Option Addr) (nc' : Nat) (ps' : List PN), f' ≤ f ∧ v = .int .i64 l ∧ par ts f' (.chain add l a d (ps'.map Prod.snd)) = some R ∧ PSt wr base S A c a ts NA' nc' ps' x3 ∧ Turn (TS S NA) w wr ∧ NewN w NA NA' ∧ ps'.length ≤ 60 ∧ a < ts.length ∧ FrA w ps ps') ∨
  (∃ (v1 o : Int) (x1 x2 : Value), v = .int .i64 v1 ∧ R = .bad o ∧ 0 ≤ o ∧ Below base w wr ∧ S < wr.heap.size ∧ Mbox wr S [.slice A ts.length c, x1, x2, x3, .int .i64 o])
theorem leftB_good {w : World} {base S : Nat} {A : Option Addr} {c a : Nat} {ts : List Tk} {NA : Option Addr} {nc : Nat} {ps : List PN} {x3 : Value} (h : PSt w base S A c a ts NA nc ps x3) : leftB S ts.length w = ts.length + 1 - a := by
  unfold leftB
  rw [h.box.c 4, h.box.c 1]
  simp
theorem leftB_bad {w : World} {S n : Nat} {x0 x1 x2 x3 : Value} {o : Int} (h : Mbox w S [x0, x1, x2, x3, .int .i64 o]) (ho : 0 ≤ o) : leftB S n w = 0 := by
  unfold leftB
  rw [h.c 4, h.c 1]
  cases x1 <;> simp [ho]

set_option maxRecDepth 100000 in
set_option maxHeartbeats 8000000 in
theorem sBin_any {f : Nat} (ihf : ∀ g, g ≤ f → FacC g) (ihb : ∀ g, g ≤ f → BinC g) : BinC (f + 1) := by
  intro w base S c a d nc A NA ts ps x3 add R hT h hn ha hd hp
  simp only [par] at hp
  have IHF := Lib.hid ihf
  have IHB := Lib.hid ihb
  have HTS := Lib.hid hT
  have H0 := Lib.hid h
  clear ihf ihb hT
  have hR1 : ∃ R1, par ts f (if add = true then .bin false a d (ps.map Prod.snd) else .fac a d (ps.map Prod.snd)) = some R1 := by
    cases e : par ts f (if add = true then .bin false a d (ps.map Prod.snd) else .fac a d (ps.map Prod.snd)) with
    | none => rw [e] at hp; cases hp
    | some R1 => exact ⟨R1, rfl⟩
  obtain ⟨R1, hR1⟩ := hR1
  rw [hR1] at hp
  have hcl := sOperand_any (IHF.out f (Nat.le_refl _)) (IHB.out f (Nat.le_refl _)) w base S c a d nc A NA ts ps x3 add R1 HTS.out h hn ha hd hR1
  have hgd : ∀ r a' ns', R1 = .ok r a' ns' → a' < ts.length := fun r a' ns' e => by
    cases add with
    | true => exact (par_good HTS.out.ends f (.bin false a d (ps.map Prod.snd)) _ ha hR1 _ _ _ e).1
    | false => exact (par_good HTS.out.ends f (.fac a d (ps.map Prod.snd)) _ ha hR1 _ _ _ e).1
  have HCL := Lib.hid hcl
  have HGD := Lib.hid hgd
  have HP := Lib.hid hp
  clear hcl hgd hp h hR1
  go_enter Tryz.func25, Tryz.ntmps25
  go_wp2_with fail
  refine HCL.out.mono ?_
  rintro e w1 hpp
  have hinv : ∃ v, e = .returned v ∧ BinInv f base S A c d ts NA ps x3 add R w v w1 := by
    cases R1 with
    | bad o1 =>
      obtain ⟨⟨v1, rfl⟩, hz0, hz1, hz2, x1, x2, hz3⟩ := hpp
      have hp2 := HP.out
      injection hp2 with hp2
      exact ⟨_, rfl, .inr ⟨v1, o1, x1, x2, rfl, hp2.symm, hz0, hz1, hz2, hz3⟩⟩
    | ok r1 a1 ns1 =>
      obtain ⟨rfl, NA1, nc1, ps1, hps1, hst1, ht1, hn1, hl1, hf1⟩ := hpp
      subst hps1
      exact ⟨_, rfl, .inl ⟨f, r1, a1, NA1, nc1, ps1, Nat.le_refl _, rfl, HP.out, hst1, ht1, hn1, hl1, HGD.out _ _ _ rfl, hf1⟩⟩
  obtain ⟨v0, rfl, hinv⟩ := hinv
  have HI := Lib.hid hinv
  clear hinv hpp HCL HGD HP
  go_wp2_with fail
  go_loopw [7] (fun v wr => BinInv f base S A c d ts NA ps x3 add R w v wr) (fun _ wr => leftB S ts.length wr)
  case atStart => exact HI.out
  case round =>
    clear HI
    rcases hrel with ⟨f', l, a', NA', nc', ps', hf, rfl, hpc, hst, ht, hnw, hl, ha', hfr⟩ | ⟨v1, o, x1, x2, rfl, rfl, ho, hb, hsz, hm⟩
    · cases f' with
      | zero => simp [par] at hpc
      | succ f' =>
      simp only [par] at hpc
      have c4 := hst.box.c 4
      have hpk := sPeek_any S c a' _ ts _ _ _ wr hst.box (hst.toks.more (Nat.le_of_lt (Nat.lt_of_le_of_lt hst.low hst.lt))) ha'
      obtain ⟨y, hy⟩ : ∃ y, y = symA ts a' := ⟨_, rfl⟩
      rw [← hy] at hpc hpk
      obtain ⟨q, hq⟩ : ∃ q, q = opP add y := ⟨_, rfl⟩
      have HPK := Lib.hid hpk
      have HST := Lib.hid hst
      have HT := Lib.hid ht
      have HNW := Lib.hid hnw
      have HPC := Lib.hid hpc
      have HY := Lib.hid hy
      have HQ := Lib.hid hq
      clear hpk hst ht hnw hpc hy hq
      go_wp2_with fail
      refine HPK.out.mono ?_
      rintro e w2 ⟨rfl, hb2⟩
      have HST2 := Lib.hid (HST.out.later hb2)
      have HT2 := Lib.hid (HT.out.trans (Turn.of_later hb2))
      clear hb2 HPK
      go_wp2_with fail
      refine (sOp_any y add _).mono ?_
      rintro e w3 ⟨rfl, rfl⟩
      rw [← HQ.out]
      by_cases hq0 : q = 0
      · have b0 : (q == 0) = true := by simpa using hq0
        have hpc := HPC.out
        rw [← HQ.out, if_pos hq0] at hpc
        injection hpc with hpc
        have HZ : Hid (PPost base S A c ts NA ps x3 R w (.returned (.int .i64 l)) w3) := Lib.hid (by
          rw [← hpc]
          exact ⟨rfl, NA', nc', ps', rfl, HST2.out, HT2.out, HNW.out, hl, hfr⟩)
        clear hpc HPC HST2 HT2 HST HT HNW c4 hq0
        go_wp2_with fail
        go_ret
        exact HZ.out
      · have b0 : (q == 0) = false := by simpa using hq0
        have hpc := HPC.out
        rw [← HQ.out, if_neg hq0] at hpc
        have h1 := op_next HTS.out.ends ha' (show opP add (symA ts a') ≠ 0 by rw [← HY.out, ← HQ.out]; exact hq0)
        have hR2 : ∃ R2, par ts f' (if add = true then .bin false (a' + 1) d (ps'.map Prod.snd) else .fac (a' + 1) d (ps'.map Prod.snd)) = some R2 := by
          cases e : par ts f' (if add = true then .bin false (a' + 1) d (ps'.map Prod.snd) else .fac (a' + 1) d (ps'.map Prod.snd)) with
          | none => rw [e] at hpc; cases hpc
          | some R2 => exact ⟨R2, rfl⟩
        obtain ⟨R2, hR2⟩ := hR2
        rw [hR2] at hpc
        have hgd : ∀ r a2 ns2, R2 = .ok r a2 ns2 → a2 < ts.length ∧ a' + 1 < a2 := fun r a2 ns2 e => by
          cases add with
          | true => exact par_good HTS.out.ends f' (.bin false (a' + 1) d (ps'.map Prod.snd)) _ h1 hR2 _ _ _ e
          | false => exact par_good HTS.out.ends f' (.fac (a' + 1) d (ps'.map Prod.snd)) _ h1 hR2 _ _ _ e
        have hst2 := HST2.out
        have c1 := hst2.box.c 1
        have f1 := hst2.box.f 1
        have hnx := hst2.next (a' := a' + 1)
        have e1 : ((a' + 1 : Nat) : Int) = (a' : Int) + 1 := by omega
        rw [e1] at hnx
        have hlb : (a' : Int) < 1099511627776 := by have := HTS.out.len; omega
        have hge : (0 : Int) ≤ (a' : Int) := by omega
        have hcl := sOperand_any (IHF.out f' (by omega)) (IHB.out f' (by omega)) _ base S c (a' + 1) d nc' A NA' ts ps' x3 add R2 HTS.out hnx hl h1 hd hR2
        have hT3 : Turn (TS S NA') w3 (w3.setCell ⟨S, 1, none⟩ (.int .i64 ((a' : Int) + 1))) := (Turn.refl _ w3).setCell (g := S) (i := 1) (.inl rfl) _
        have HT3 := Lib.hid (turn_chain HT2.out HNW.out hT3)
        have HCL := Lib.hid hcl
        have HGD := Lib.hid hgd
        have HPC2 := Lib.hid hpc
        clear hcl hgd hpc hR2 hnx e1 hst2 hT3 HPC c4 hq0
        go_wp2_with fail
        refine HCL.out.mono ?_
        rintro e w4 hpp
        clear HCL c1 f1
        cases R2 with
        | bad o1 =>
          obtain ⟨⟨v1, rfl⟩, hz0, hz1, hz2, x1, x2, hz3⟩ := hpp
          have c4 := hz3.c 4
          have hp2 := HPC2.out
          injection hp2 with hp2
          subst hp2
          have HZ := Lib.hid (PPost.up (base := base) (S := S) (A := A) (c := c) (ts := ts) (NA := NA) (NA' := NA) (ps := ps) (ps1 := ps) (x3 := x3) (R := .bad o1) (e := .returned (.int .i64 0)) ⟨⟨0, rfl⟩, hz0, hz1, hz2, x1, x2, hz3⟩ (H0.out.under HT3.out) HT3.out (newN_refl w NA) (FrA.refl w ps))
          clear hz1 hz2 hz3 HT3 HT2 HST2 HST HT
          go_wp2_with fail
          go_ret
          exact HZ.out
        | ok r1 a1 ns1 =>
          obtain ⟨rfl, NA1, nc1, ps1, hps1, hst4, ht4, hn4, hl4, hf4⟩ := hpp
          subst hps1
          have hg := HGD.out _ _ _ rfl
          obtain ⟨a2, rfl⟩ : ∃ a2, a1 = a2 + 1 := ⟨a1 - 1, by omega⟩
          have c4 := hst4.box.c 4
          have hlit := hst4.lit [(l : Int), (r1 : Int)] #[.int .i64 l, .int .i64 r1] rfl (by unfold maxLen; simp)
          have hem := emit_any ((some ⟨w4.heap.size, 0, none⟩, 2), (q, ⟨#[]⟩, 0, [(l : Int), (r1 : Int)])) _ hlit.1 (by omega) HTS.out.len HTS.out.off hl4 hlit.2.1 hlit.2.2.1 hlit.2.2.2.1 hlit.2.2.2.2
          have hn3 : NewN w NA NA1 := newN_trans HT3.out.size HNW.out hn4
          have hT4 : Turn (TS S NA) w (w4.alloc (.cells #[.int .i64 l, .int .i64 r1] 3)) := (turn_chain HT3.out HNW.out ht4).trans (Turn.of_later (by go_grown))
          have hfq : FrA w ps (ps1 ++ [((some ⟨w4.heap.size, 0, none⟩, 2), (q, ⟨#[]⟩, 0, [(l : Int), (r1 : Int)]))]) := (FrA.trans hfr HT3.out.size hf4).add (fun b hb => by
            have e : w4.heap.size = b := by injection hb
            rw [← e]
            exact Nat.le_trans HT3.out.size ht4.size)
          have HFQ := Lib.hid hfq
          clear hfq hf4
          have HT4 := Lib.hid hT4
          have HN3 := Lib.hid hn3
          have HEM := Lib.hid hem
          clear hst4 ht4 hn4 hlit hem hT4 hn3 HT3 HT2
          go_wp2_with fail
          refine HEM.out.mono ?_
          rintro e w5 hpp
          clear HEM c4
          have hlW : leftB S ts.length wr = ts.length + 1 - a' := leftB_good HST.out
          have hnext : ∃ v, e = .returned v ∧ BinInv f base S A c d ts NA ps x3 add R w v w5 ∧ leftB S ts.length w5 < leftB S ts.length wr := by
            have hpc := HPC2.out
            cases hem : emitP ts (a2 + 1) (ps1.map Prod.snd) (q, ⟨#[]⟩, 0, [(l : Int), (r1 : Int)]) with
            | bad o1 =>
              rw [hem] at hpc hpp
              injection hpc with hpc
              obtain ⟨⟨v1, rfl⟩, hz0, hz1, hz2, x1, x2, hz3⟩ := hpp
              exact ⟨_, rfl, .inr ⟨v1, o1, x1, x2, rfl, hpc.symm, hz0, (H0.out.under HT4.out).trans hz1, hz2, hz3⟩, by rw [leftB_bad hz3 hz0, hlW]; omega⟩
            | ok r2 a3 ns2 =>
              rw [hem] at hpc hpp
              obtain ⟨rfl, _⟩ := emit_ok hem
              obtain ⟨rfl, NA2, nc2, ps2, hps2, hst5, ht5, hn5, hl5, hf5⟩ := hpp
              subst hps2
              exact ⟨_, rfl, .inl ⟨f', r2, a2 + 1, NA2, nc2, ps2, by omega, rfl, hpc, hst5, turn_chain HT4.out HN3.out ht5, newN_trans HT4.out.size HN3.out hn5, hl5, hg.1, HFQ.out.trans HT4.out.size hf5⟩, by rw [leftB_good hst5, hlW]; omega⟩
          obtain ⟨v5, rfl, hbi, hms⟩ := hnext
          have HBI := Lib.hid hbi
          have HMS := Lib.hid hms
          clear hbi hms hlW hpp HT4 HN3 HPC2 HST2 HST HT
          go_wp2_with fail
          go_roundw
          case rel => exact HBI.out
          case measure => exact HMS.out
    · have c4 := hm.c 4
      have HZ : Hid (PPost base S A c ts NA ps x3 (.bad o) w (.returned (.int .i64 v1)) wr) := Lib.hid ⟨⟨v1, rfl⟩, ho, hb, hsz, _, _, hm⟩
      clear hm hb
      go_wp2_with fail
      go_ret
      exact HZ.out
end Go.Proofs.YtkbdnjhgcoihhaaGreatDoor
