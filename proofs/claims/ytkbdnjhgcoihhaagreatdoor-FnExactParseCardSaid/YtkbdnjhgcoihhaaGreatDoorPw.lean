/- The model's parser: calls. -/
import Derived.Test.YtkbdnjhgcoihhaaGreatDoorProg
import Derived.Test.YtkbdnjhgcoihhaaGreatDoorInts
import Derived.Test.YtkbdnjhgcoihhaaGreatDoorVbox
import Derived.Test.YtkbdnjhgcoihhaaGreatDoorHeld
import Derived.Test.YtkbdnjhgcoihhaaGreatDoorMem
import Derived.Test.YtkbdnjhgcoihhaaGreatDoorFlat
import Derived.Test.YtkbdnjhgcoihhaaGreatDoorRowC
import Derived.Test.YtkbdnjhgcoihhaaGreatDoorKS
import Derived.Test.YtkbdnjhgcoihhaaGreatDoorStrS
import Derived.Test.YtkbdnjhgcoihhaaGreatDoorIntS
import Derived.Test.YtkbdnjhgcoihhaaGreatDoorSS
import Derived.Test.YtkbdnjhgcoihhaaGreatDoorTok
import Derived.Test.YtkbdnjhgcoihhaaGreatDoorPg
import Derived.Test.YtkbdnjhgcoihhaaGreatDoorPh
import Derived.Test.YtkbdnjhgcoihhaaGreatDoorPi
import Derived.Test.YtkbdnjhgcoihhaaGreatDoorPk
import Derived.Test.YtkbdnjhgcoihhaaGreatDoorPl
import Derived.Test.YtkbdnjhgcoihhaaGreatDoorPp
import Derived.Test.YtkbdnjhgcoihhaaGreatDoorPq
import Derived.Test.YtkbdnjhgcoihhaaGreatDoorPr
import Derived.Test.YtkbdnjhgcoihhaaGreatDoorPs
import Derived.Test.YtkbdnjhgcoihhaaGreatDoorPt
import Derived.Test.YtkbdnjhgcoihhaaGreatDoorPu
import Derived.Test.YtkbdnjhgcoihhaaGreatDoorPv
import Derived.WalkKit
import Derived.WalkSpells
import Derived.WalkLawsBesides
import Derived.Lib.Hide
import Derived.Deep.RegionHeld3
import Derived.Deep.QuietTactic
import Derived.BigQuiet
import Derived.Handy
import Derived.Deep.DeepCutAuto
import Derived.Deep.AppendLies
import Derived.Deep.RegionLaw
import Derived.Maps.AppendAt
namespace Go.Proofs.YtkbdnjhgcoihhaaGreatDoor
open Go.RowKit
theorem wpList_app1_atP {P : Program} {ops : Array Oper} {rest : List Oper} {o : Oper} {a : Act} {Q : Exit → Act → World → Prop} (w : World) (hgd : o.guard = none) (s x : Operand) (t : TypeId)
    (ho : o.op = .call { callee := .builtin .append, args := #[s, x], argTypes := #[t, t] }) (base : Nat) (e : TypeId) (z : Value) (bytes : Nat)
    (ht : P.underlying t = some (.slice e)) (hinfo : (P.info? e).map (fun i => (i.zero, i.size, i.bytes)) = some (some z, 1, bytes)) (hzs : z.cells.size = 1)
    (v : Value) (n : Nat) (xs : List Value) (hs : a.eval s = v) (hown : w.ownsRow base e 1 v n xs) (g : Nat) (u : Value) (hx : a.eval x = .slice (some ⟨g, 0, none⟩) 1 1) (hc : w.cell? ⟨g, 0, none⟩ = some u) (hu : u.oneCell' = true)
    (h63 : n + 1 ≤ maxLen) (hbytes : (n + 1) * bytes ≤ 140737488355328) (hbase : base ≤ w.heap.size)
    (h : ∀ v' w', w'.ownsRow base e 1 v' (n + 1) (xs ++ [u]) → w.grownBy w' v.ownBlock → (v'.ownBlock = v.ownBlock ∨ v'.ownBlock = some w.heap.size) → wpList P ops Q rest (a.put o.dst v') w') : wpList P ops Q (o :: rest) a w := by
  obtain ⟨i0, hi, hz0, hz1, hz2⟩ := info_parts hinfo
  refine wpList_append_own_at _ hgd s x t ho base e i0 z 1 bytes ht hi hz0 hz1 hz2 hzs (by omega) v n xs hs hown ⟨g, 0, none⟩ 1 1 [u] hx rfl ?_ ?_ h63 hbytes hbase ?_
  · intro j y hj
    match j, hj with
    | 0, hj => simp at hj; subst hj; simpa [Addr.add] using hc
  · intro y hy; simp at hy; subst hy; exact hu
  · intro v' w' h1 h2 _ h4
    exact h v' w' h1 h2 h4

/-- the arguments of a call under way: a row of their own, apart from the state and the nodes -/
structure ArgS (w0 wr : World) (base S : Nat) (NA : Option Addr) (ps : List PN) (GA : Option Addr) (gc : Nat) (xs : List Int) : Prop where
  own : QO base wr (GA, gc) xs
  apN : Apart GA NA
  apS : blk GA ≠ some S
  apA : ∀ p ∈ ps, Apart p.1.1 GA
  new : ∀ b, blk GA = some b → w0.heap.size ≤ b
section
variable {w0 wr w' : World} {base S : Nat} {A NA NA' GA GA' : Option Addr} {ps ps' : List PN} {c a nc gc gc' : Nat} {xs : List Int} {ts : List Tk} {x3 : Value}
theorem ArgS.later (h : ArgS w0 wr base S NA ps GA gc xs) (hb : Below wr.heap.size wr w') : ArgS w0 w' base S NA ps GA gc xs :=
  ⟨qo_keep h.own (fun b hbk => hb.block b (qo_lt h.own hbk)), h.apN, h.apS, h.apA, h.new⟩
theorem ArgS.step (h : ArgS w0 wr base S NA ps GA gc xs) (ht : Turn (TS S NA) wr w') (hn : NewN wr NA NA') (hf : FrA wr ps ps') : ArgS w0 w' base S NA' ps' GA gc xs where
  own := qo_keep h.own (fun b hbk => ht.block (qo_lt h.own hbk) (fun c => by
    rcases c with c | c
    · exact h.apS (by rw [← c]; exact hbk)
    · exact h.apN b hbk c))
  apN := fun k hk he => by
    rcases hn with e | ⟨j, e, hj⟩
    · exact h.apN k hk (by rw [← e]; exact he)
    · rw [e] at he
      injection he with he
      have := qo_lt h.own hk
      omega
  apS := h.apS
  apA := fun p hp k hk he => by
    rcases hf p hp k hk with hge | ⟨p0, hp0, hb0⟩
    · have := qo_lt h.own he
      omega
    · exact h.apA p0 hp0 k hb0 he
  new := h.new
/-- where only the arguments' block has turned -/
theorem PSt.argT (h : PSt wr base S A c a ts NA nc ps x3) (hg : ArgS w0 wr base S NA ps GA gc xs) (ht : Turn (fun k => blk GA = some k) wr w') : PSt w' base S A c a ts NA nc ps x3 where
  box := h.box.keep fun _ => ht.block h.lt hg.apS
  low := h.low
  lt := Nat.lt_of_lt_of_le h.lt ht.size
  toks := h.toks.below (ht.below (Nat.le_of_lt (Nat.lt_of_le_of_lt h.low h.lt)) (fun k e => (hg.own.lt k (of_blk e)).1))
  nodes := ⟨own_keepN h.nodes.1 (fun b hbk => ht.block (h.nodes.1.lt b hbk).2 (fun e => hg.apN b e (blk_of hbk))), fun i hi => ⟨qo_keep (h.nodes.2.1 i hi).1 (fun b hbk => ht.block (qo_lt (h.nodes.2.1 i hi).1 hbk) (fun e => hg.apA _ (List.getElem_mem hi) b hbk e)), (h.nodes.2.1 i hi).2⟩, h.nodes.2.2⟩
  apN := h.apN
  apA := h.apA
theorem ArgS.app (h : ArgS w0 wr base S NA ps GA gc xs) (hst : PSt wr base S A c a ts NA nc ps x3) (hsz : w0.heap.size ≤ wr.heap.size) {r : Int} (ho : QO base w' (GA', gc') (xs ++ [r])) (hat : blk GA' = blk GA ∨ blk GA' = some wr.heap.size) : ArgS w0 w' base S NA ps GA' gc' (xs ++ [r]) where
  own := ho
  apN := fun k hk he => by
    rcases hat with e | e
    · exact h.apN k (by rw [← e]; exact hk) he
    · rw [e] at hk
      injection hk with hk
      have := (hst.nodes.1.lt k (of_blk he)).2
      omega
  apS := fun he => by
    rcases hat with e | e
    · exact h.apS (by rw [← e]; exact he)
    · rw [e] at he
      injection he with he
      have := hst.lt
      omega
  apA := fun p hp k hk he => by
    rcases hat with e | e
    · exact h.apA p hp k hk (by rw [← e]; exact he)
    · rw [e] at he
      injection he with he
      obtain ⟨i, hi, rfl⟩ := List.getElem_of_mem hp
      have := qo_lt (hst.nodes.2.1 i hi).1 hk
      omega
  new := fun b hb => by
    rcases hat with e | e
    · exact h.new b (by rw [← e]; exact hb)
    · rw [e] at hb
      injection hb with hb
      omega
theorem own_blk (A : Option Addr) (n c : Nat) : (Value.slice A n c).ownBlock = blk A := by cases A <;> rfl
theorem turn_argA {n c : Nat} {NA : Option Addr} {w w' : World} (h : w.grownBy w' (Value.slice NA n c).ownBlock) : Turn (fun k => blk NA = some k) w w' :=
  ⟨h.os, h.tape, h.output, h.size, fun k hk hn => h.block k hk (fun e => hn (blk_of e.symm))⟩
/-- blocks that are new do not count -/
theorem Turn.newer {T : Nat → Prop} {w w1 w2 : World} (h1 : Turn T w w1) (h2 : Turn (fun k => blk GA = some k) w1 w2) (hn : ∀ b, blk GA = some b → w.heap.size ≤ b) : Turn T w w2 :=
  ⟨h2.1.trans h1.1, h2.2.1.trans h1.2.1, h2.2.2.1.trans h1.2.2.1, Nat.le_trans h1.size h2.size, fun k hk hnk => (h2.block (Nat.lt_of_lt_of_le hk h1.size) (fun c => by
    have := hn k c
    omega)).trans (h1.block hk hnk)⟩
end

set_option maxRecDepth 100000 in
set_option maxHeartbeats 8000000 in
theorem sCall_any {f : Nat} (ihb : ∀ g, g < f → BinC g) : CallC f := by
  intro w base S c a d nc A NA ts ps x3 nm R hT h hn ha hd hp
  have hlit := h.lit [] #[] rfl (by unfold maxLen; simp)
  have hag : ArgS w (w.alloc (.cells #[] 3)) base S NA ps (some ⟨w.heap.size, 0, none⟩) 0 [] := ⟨hlit.2.1, hlit.2.2.1, hlit.2.2.2.1, fun p hp => by
    obtain ⟨i, hi, rfl⟩ := List.getElem_of_mem hp
    exact hlit.2.2.2.2 i hi, fun b hb => by
    have e : w.heap.size = b := by injection hb
    omega⟩
  have hst0 := hlit.1
  have hT0 : Turn (TS S NA) w (w.alloc (.cells #[] 3)) := Turn.of_later (by go_grown)
  have hpk := sPeek_any S c a _ ts _ _ _ _ hst0.box (hst0.toks.more (Nat.le_of_lt (Nat.lt_of_le_of_lt hst0.low hst0.lt))) ha
  have H0 := Lib.hid h
  have HTS := Lib.hid hT
  have IHB := Lib.hid ihb
  have HP := Lib.hid hp
  have HAG := Lib.hid hag
  have HST := Lib.hid hst0
  have HT0 := Lib.hid hT0
  have HPK := Lib.hid hpk
  clear h hT ihb hp hag hst0 hT0 hpk hlit
  go_enter Tryz.func68, Tryz.ntmps68
  go_wp2_with fail
  refine HPK.out.mono ?_
  rintro e w1 ⟨rfl, hb1⟩
  have HAG1 := Lib.hid (HAG.out.later hb1)
  have HST1 := Lib.hid (HST.out.later hb1)
  have HT1 := Lib.hid (HT0.out.trans (Turn.of_later hb1))
  clear hb1 HAG HST HT0 HPK
  by_cases sc : symA ts a = ⟨#[41]⟩
  · have hp := HP.out
    rw [if_pos sc] at hp
    injection hp with hp
    have b1 : ((symA ts a).toList == [41]) = true := by rw [str_is]; exact decide_eq_true sc
    have hst1 := HST1.out
    have HEX := Lib.hid (sExpect_yes S c a _ ts _ _ ⟨#[41]⟩ w1 hst1.box hst1.lt (hst1.toks.more hst1.low) ha HTS.out.len sc)
    have HP2 := Lib.hid hp
    clear hp hst1 sc HP
    go_wp2_with fail
    refine HEX.out.mono ?_
    rintro e w2 ⟨rfl, ht2, hm2⟩
    have hst2 := HST1.out.turned ht2 hm2
    have hag2 := HAG1.out.step (ht2.mono fun k e => .inl e) (newN_refl w1 NA) (FrA.refl w1 ps)
    have hem := emit_any ((some ⟨w.heap.size, 0, none⟩, 0), (8, nm, 0, [])) _ hst2 ha HTS.out.len HTS.out.off hn hag2.own hag2.apN hag2.apS (fun i hi => hag2.apA _ (List.getElem_mem hi))
    have hT2 : Turn (TS S NA) w w2 := HT1.out.trans (ht2.mono fun k e => .inl e)
    have HT2 := Lib.hid hT2
    have HEM := Lib.hid hem
    clear ht2 hm2 hst2 hag2 hem hT2 HEX HT1 HAG1 HST1 b1
    go_wp2_with fail
    refine HEM.out.mono ?_
    rintro e w3 hpp
    have hpp := hpp.up (H0.out.under HT2.out) HT2.out (newN_refl w NA) ((FrA.refl w ps).add (fun b hb => by
      have e : w.heap.size = b := by injection hb
      omega))
    rw [HP2.out] at hpp
    clear HEM HT2 HP2
    cases R with
    | bad o1 =>
      obtain ⟨⟨v1, rfl⟩, hz⟩ := hpp
      go_wp2_with fail
      go_ret
      exact ⟨⟨v1, rfl⟩, hz⟩
    | ok r1 a1 ns1 =>
      obtain ⟨rfl, hz⟩ := hpp
      go_wp2_with fail
      go_ret
      exact ⟨rfl, hz⟩
  · have hp := HP.out
    rw [if_neg sc] at hp
    have b1 : ((symA ts a).toList == [41]) = false := by rw [str_is]; exact decide_eq_false sc
    have HP1 := Lib.hid hp
    clear hp HP sc
    go_wp2_with fail
    go_loopw [7] (fun v wr => ∃ (f' a' : Nat) (NA' : Option Addr) (nc' : Nat) (ps' : List PN) (xs : List Int) (GA : Option Addr) (gc : Nat), f' ≤ f ∧ v = .slice GA xs.length gc ∧ par ts f' (.call nm xs a' d (ps'.map Prod.snd)) = some R ∧ PSt wr base S A c a' ts NA' nc' ps' x3 ∧ Turn (TS S NA) w wr ∧ NewN w NA NA' ∧ ps'.length ≤ 60 ∧ a' < ts.length ∧ FrA w ps ps' ∧ ArgS w wr base S NA' ps' GA gc xs ∧ xs.length ≤ 3) (fun _ wr => leftB S ts.length wr)
    case atStart => exact ⟨f, a, NA, nc, ps, [], some ⟨w.heap.size, 0, none⟩, 0, Nat.le_refl _, rfl, HP1.out, HST1.out, HT1.out, newN_refl w NA, hn, ha, FrA.refl w ps, HAG1.out, by simp⟩
    case round =>
      clear b1 HAG1 HST1 HT1 HP1
      obtain ⟨f', a', NA', nc', ps', xs, GA, gc, hf, rfl, hpc, hst, ht, hnw, hl, ha', hfr, hag, hxl⟩ := hrel
      cases f' with
      | zero => simp [par] at hpc
      | succ f' =>
      simp only [par] at hpc
      by_cases h3 : xs.length = 3
      · rw [if_pos h3] at hpc
        injection hpc with hpc
        subst hpc
        have b3 : ((xs.length : Int) == 3) = true := by simp; omega
        have hfl := sFail_any S c a' A ts (.slice NA' ps'.length nc') x3 wr hst.box (hst.toks.more hst.low) ha'
        have HST := Lib.hid hst
        have HT := Lib.hid ht
        have HFL := Lib.hid hfl
        clear hst ht hfl hag hfr hnw h3
        go_wp2_with fail
        refine HFL.out.mono ?_
        rintro e w2 ⟨rfl, ht2, hm2⟩
        have HZ : Hid (PPost base S A c ts NA ps x3 (.bad (offA ts a')) w (.returned (.int .i64 0)) w2) := Lib.hid ⟨⟨0, rfl⟩, HTS.out.off _, (H0.out.under HT.out).trans (HST.out.under (ht2.mono fun k e => .inl e)), Nat.lt_of_lt_of_le HST.out.lt ht2.size, _, _, hm2⟩
        clear ht2 hm2 HFL HST HT b3
        go_wp2_with fail
        go_ret
        exact HZ.out
      · rw [if_neg h3] at hpc
        have b3 : ((xs.length : Int) == 3) = false := by simp; omega
        have hR2 : ∃ R2, par ts f' (.bin true a' d (ps'.map Prod.snd)) = some R2 := by
          cases e : par ts f' (.bin true a' d (ps'.map Prod.snd)) with
          | none => rw [e] at hpc; cases hpc
          | some R2 => exact ⟨R2, rfl⟩
        obtain ⟨R2, hR2⟩ := hR2
        rw [hR2] at hpc
        have hgd := par_good HTS.out.ends f' (.bin true a' d (ps'.map Prod.snd)) _ ha' hR2
        have hcl := sExpr_any (IHB.out f' (by omega)) wr base S c a' d nc' A NA' ts ps' x3 R2 HTS.out hst hl ha' hd hR2
        have hlW : leftB S ts.length wr = ts.length + 1 - a' := leftB_good hst
        have HLW := Lib.hid hlW
        have HT := Lib.hid ht
        have HNW := Lib.hid hnw
        have HFR := Lib.hid hfr
        have HAG := Lib.hid hag
        have HGD := Lib.hid hgd
        have HCL := Lib.hid hcl
        have HPC := Lib.hid hpc
        clear hst ht hnw hfr hag hgd hcl hpc hR2 hlW
        go_wp2_with fail
        refine HCL.out.mono ?_
        rintro e w4 hpp
        clear HCL
        cases R2 with
        | bad o1 =>
          obtain ⟨⟨v1, rfl⟩, hz0, hz1, hz2, x1, x2, hz3⟩ := hpp
          have c4 := hz3.c 4
          have hp2 := HPC.out
          injection hp2 with hp2
          subst hp2
          have HZ : Hid (PPost base S A c ts NA ps x3 (.bad o1) w (.returned (.int .i64 0)) w4) := Lib.hid ⟨⟨0, rfl⟩, hz0, (H0.out.under HT.out).trans hz1, hz2, x1, x2, hz3⟩
          clear hz1 hz2 hz3 HT HNW HFR HAG HGD HPC HLW
          go_wp2_with fail
          go_ret
          exact HZ.out
        | ok r1 a1 ns1 =>
          obtain ⟨rfl, NA1, nc1, ps1, hps1, hst4, ht4, hn4, hl4, hf4⟩ := hpp
          subst hps1
          have hg := HGD.out _ _ _ rfl
          simp only [atM] at hg
          have hpc := HPC.out
          simp only at hpc
          have hag4 := HAG.out.step ht4 hn4 hf4
          have hT4 := turn_chain HT.out HNW.out ht4
          have hN4 := newN_trans HT.out.size HNW.out hn4
          have hF4 := FrA.trans HFR.out HT.out.size hf4
          have hbA : Below w4.heap.size w4 (w4.alloc (.cells #[.int .i64 (r1 : Nat)] 3)) := by go_grown
          have hst5 := hst4.later hbA
          have hag5 := hag4.later hbA
          have hT5 : Turn (TS S NA) w (w4.alloc (.cells #[.int .i64 (r1 : Nat)] 3)) := hT4.trans (Turn.of_later hbA)
          have c4 := hst4.box.c 4
          have c4' := hst5.box.c 4
          have HST5 := Lib.hid hst5
          have HAG5 := Lib.hid hag5
          have HT5 := Lib.hid hT5
          have HN4 := Lib.hid hN4
          have HF4 := Lib.hid hF4
          have HPC2 := Lib.hid hpc
          have hbs : base ≤ (w4.alloc (.cells #[.int .i64 (r1 : Nat)] 3)).heap.size := Nat.le_of_lt (Nat.lt_of_le_of_lt hst5.low hst5.lt)
          clear hst4 ht4 hn4 hf4 hag4 hT4 hN4 hF4 hbA hst5 hag5 hT5 hpc HPC HT HNW HFR HAG HGD
          go_wp2_with (at_builtin; refine wpList_app1_atP _ rfl _ _ 69 rfl base 3 (.int .i64 0) 8 Tryz.underlying69 infoInt rfl (.slice GA xs.length gc) xs.length (xs.map I64) (by rfl) HAG5.out.own w4.heap.size (.int .i64 (r1 : Nat)) (by rfl) (by first | rfl | simp) (by rfl) (by unfold maxLen; omega) (by omega) hbs ?_)
          intro v6 w6 ho6 hg6 hat6
          obtain ⟨GA6, gc6, rfl⟩ := own_shape ho6
          have ht6 := turn_argA hg6
          have hst6 := HST5.out.argT HAG5.out ht6
          have hag6 : ArgS w w6 base S NA1 ps1 GA6 gc6 (xs ++ [(r1 : Int)]) := HAG5.out.app HST5.out HT5.out.size (show w6.ownsRow base 3 1 (.slice GA6 (xs ++ [(r1 : Int)]).length gc6) (xs ++ [(r1 : Int)]).length ((xs ++ [(r1 : Int)]).map I64) by
            rw [List.length_append, List.map_append]; exact ho6) (by
            rw [own_blk, own_blk] at hat6
            simpa using hat6)
          have hT6 : Turn (TS S NA) w w6 := HT5.out.newer ht6 HAG5.out.new
          have HPK := Lib.hid (sPeek_any S c a1 _ ts _ _ _ w6 hst6.box (hst6.toks.more (Nat.le_of_lt (Nat.lt_of_le_of_lt hst6.low hst6.lt))) hg.1)
          have HST6 := Lib.hid hst6
          have HAG6 := Lib.hid hag6
          have HT6 := Lib.hid hT6
          have HG := Lib.hid hg
          have hx6 : (xs ++ [(r1 : Int)]).length = xs.length + 1 := by simp
          obtain ⟨zs, hzs⟩ : ∃ zs, zs = xs ++ [(r1 : Int)] := ⟨_, rfl⟩
          rw [← hzs] at HAG6 hx6
          have HZS := Lib.hid hzs
          have hx7 : zs.length ≤ 3 := by omega
          have hx8 : zs.length = xs.length + 1 := hx6
          rw [← hx8]
          have HX7 := Lib.hid hx7
          clear ho6 hg6 hat6 ht6 hst6 hag6 hT6 HST5 HAG5 HT5 hg c4 c4' hbs hzs b3 h3 hx6 hx7 hx8 hxl
          go_wp2_with fail
          refine HPK.out.mono ?_
          rintro e w7 ⟨rfl, hb7⟩
          have HST7 := Lib.hid (HST6.out.later hb7)
          have HAG7 := Lib.hid (HAG6.out.later hb7)
          have HT7 := Lib.hid (HT6.out.trans (Turn.of_later hb7))
          clear hb7 HST6 HAG6 HT6 HPK
          by_cases s2 : symA ts a1 = ⟨#[44]⟩
          · have b2 : ((symA ts a1).toList == [44]) = true := by rw [str_is]; exact decide_eq_true s2
            have hpc := HPC2.out
            rw [if_pos s2, ← HZS.out] at hpc
            have hnx1 := sym_next HTS.out.ends HG.out.1 s2 (by decide)
            have hst7 := HST7.out
            have c1 := hst7.box.c 1
            have f1 := hst7.box.f 1
            have hnx := hst7.next (a' := a1 + 1)
            have hag8 := HAG7.out.step ((Turn.refl (TS S NA1) w7).setCell (g := S) (i := 1) (.inl rfl) (.int .i64 ((a1 + 1 : Nat) : Int))) (newN_refl w7 NA1) (FrA.refl w7 ps1)
            have hT8 := HT7.out.trans (turn_chain (Turn.refl (TS S NA) w7) (newN_refl w7 NA) ((Turn.refl (TS S NA) w7).setCell (g := S) (i := 1) (.inl rfl) (.int .i64 ((a1 + 1 : Nat) : Int))))
            have hlb := leftB_good hnx
            have hrel : ∃ (f' a' : Nat) (NA' : Option Addr) (nc' : Nat) (ps' : List PN) (xs : List Int) (GA : Option Addr) (gc : Nat), f' ≤ f ∧ Value.slice GA6 zs.length gc6 = .slice GA xs.length gc ∧ par ts f' (.call nm xs a' d (ps'.map Prod.snd)) = some R ∧ PSt (w7.setCell ⟨S, 1, none⟩ (.int .i64 ((a1 + 1 : Nat) : Int))) base S A c a' ts NA' nc' ps' x3 ∧ Turn (TS S NA) w (w7.setCell ⟨S, 1, none⟩ (.int .i64 ((a1 + 1 : Nat) : Int))) ∧ NewN w NA NA' ∧ ps'.length ≤ 60 ∧ a' < ts.length ∧ FrA w ps ps' ∧ ArgS w (w7.setCell ⟨S, 1, none⟩ (.int .i64 ((a1 + 1 : Nat) : Int))) base S NA' ps' GA gc xs ∧ xs.length ≤ 3 :=
              ⟨f', a1 + 1, NA1, nc1, ps1, zs, GA6, gc6, by omega, rfl, hpc, hnx, hT8, HN4.out, hl4, hnx1, HF4.out, hag8, HX7.out⟩
            have hms : leftB S ts.length (w7.setCell ⟨S, 1, none⟩ (.int .i64 ((a1 + 1 : Nat) : Int))) < leftB S ts.length wr := by
              rw [hlb, HLW.out]
              have := HG.out
              omega
            have e1 : ((a1 + 1 : Nat) : Int) = (a1 : Int) + 1 := by omega
            rw [e1] at hrel hms
            have HREL := Lib.hid hrel
            have HMS := Lib.hid hms
            have hlb1 : (a1 : Int) < 1099511627776 := by have := HTS.out.len; have := HG.out.1; omega
            have hge1 : (0 : Int) ≤ (a1 : Int) := by omega
            clear hrel hms e1 hnx hag8 hT8 hlb hst7 hpc hnx1 HST7 HAG7 HT7 HPC2 s2
            go_wp2_with fail
            go_roundw
            case rel => exact HREL.out
            case measure => exact HMS.out
          · have b2 : ((symA ts a1).toList == [44]) = false := by rw [str_is]; exact decide_eq_false s2
            have hpc := HPC2.out
            rw [if_neg s2] at hpc
            have hst7 := HST7.out
            by_cases s3 : symA ts a1 = ⟨#[41]⟩
            · rw [if_pos s3, ← HZS.out] at hpc
              injection hpc with hpc
              have HEX := Lib.hid (sExpect_yes S c a1 _ ts _ _ ⟨#[41]⟩ w7 hst7.box hst7.lt (hst7.toks.more hst7.low) HG.out.1 HTS.out.len s3)
              have HP2 := Lib.hid hpc
              clear hpc hst7 s2 s3 HPC2
              go_wp2_with fail
              refine HEX.out.mono ?_
              rintro e w8 ⟨rfl, ht8, hm8⟩
              have hst8 := HST7.out.turned ht8 hm8
              have hag8 := HAG7.out.step (ht8.mono fun k e => .inl e) (newN_refl w7 NA1) (FrA.refl w7 ps1)
              have hem := emit_any ((GA6, gc6), (8, nm, 0, zs)) _ hst8 HG.out.1 HTS.out.len HTS.out.off hl4 hag8.own hag8.apN hag8.apS (fun i hi => hag8.apA _ (List.getElem_mem hi))
              have hT8 : Turn (TS S NA) w w8 := HT7.out.trans (ht8.mono fun k e => .inl e)
              have HFQ := Lib.hid (HF4.out.add (q := ((GA6, gc6), (8, nm, 0, zs))) hag8.new)
              have HT8 := Lib.hid hT8
              have HEM := Lib.hid hem
              clear ht8 hm8 hst8 hag8 hem hT8 HEX HT7 HAG7 HST7 b2
              go_wp2_with fail
              refine HEM.out.mono ?_
              rintro e w9 hpp
              have hpp := hpp.up (H0.out.under HT8.out) HT8.out HN4.out HFQ.out
              rw [HP2.out] at hpp
              clear HEM HT8 HP2 HFQ
              cases R with
              | bad o1 =>
                obtain ⟨⟨v1, rfl⟩, hz⟩ := hpp
                go_wp2_with fail
                go_ret
                exact ⟨⟨v1, rfl⟩, hz⟩
              | ok r1 a1 ns1 =>
                obtain ⟨rfl, hz⟩ := hpp
                go_wp2_with fail
                go_ret
                exact ⟨rfl, hz⟩
            · rw [if_neg s3] at hpc
              injection hpc with hpc
              subst hpc
              have HEX := Lib.hid (sExpect_no S c a1 _ ts _ _ ⟨#[41]⟩ w7 hst7.box hst7.lt (hst7.toks.more hst7.low) HG.out.1 s3)
              clear hst7 s2 s3 HPC2
              go_wp2_with fail
              refine HEX.out.mono ?_
              rintro e w8 ⟨rfl, ht8, hm8⟩
              have HZ : Hid (PPost base S A c ts NA ps x3 (.bad (offA ts a1)) w (.returned (.int .i64 0)) w8) := Lib.hid ⟨⟨0, rfl⟩, HTS.out.off _, (H0.out.under HT7.out).trans (HST7.out.under (ht8.mono fun k e => .inl e)), Nat.lt_of_lt_of_le HST7.out.lt ht8.size, _, _, hm8⟩
              clear ht8 hm8 HEX HT7 HST7 HAG7 b2
              go_wp2_with fail
              go_ret
              exact HZ.out

theorem fac_zero : FacC 0 := by
  intro w base S c a d nc A NA ts ps x3 R hT h hn ha hd hp
  simp [par] at hp
theorem bin_zero : BinC 0 := by
  intro w base S c a d nc A NA ts ps x3 add R hT h hn ha hd hp
  simp [par] at hp
/-- every part of the model's parser answers as the parser on values -/
theorem parts_any : ∀ f, ∀ g, g ≤ f → FacC g ∧ BinC g := by
  intro f
  induction f with
  | zero =>
    intro g hg
    obtain rfl : g = 0 := by omega
    exact ⟨fac_zero, bin_zero⟩
  | succ f ih =>
    intro g hg
    rcases Nat.lt_or_ge g (f + 1) with h | h
    · exact ih g (by omega)
    · obtain rfl : g = f + 1 := by omega
      have hc : CallC f := sCall_any fun g hg => (ih g (by omega)).2
      exact ⟨sFac_any (ih f (Nat.le_refl _)).1 (ih f (Nat.le_refl _)).2 hc, sBin_any (fun g hg => (ih g hg).1) (fun g hg => (ih g hg).2)⟩
end Go.Proofs.YtkbdnjhgcoihhaaGreatDoor
