/- The program's parser: an assignment. -/
import Derived.Test.YtkbdnjhgcoihhaaGreatDoorProg
import Derived.Test.YtkbdnjhgcoihhaaGreatDoorInts
import Derived.Test.YtkbdnjhgcoihhaaGreatDoorVbox
import Derived.Test.YtkbdnjhgcoihhaaGreatDoorHeld
import Derived.Test.YtkbdnjhgcoihhaaGreatDoorMem
import Derived.Test.YtkbdnjhgcoihhaaGreatDoorFlat
import Derived.Test.YtkbdnjhgcoihhaaGreatDoorRowC
import Derived.Test.YtkbdnjhgcoihhaaGreatDoorKS
import Derived.Test.YtkbdnjhgcoihhaaGreatDoorStrS
import Derived.Test.YtkbdnjhgcoihhaaGreatDoorIntS
import Derived.Test.YtkbdnjhgcoihhaaGreatDoorSS
import Derived.Test.YtkbdnjhgcoihhaaGreatDoorTok
import Derived.Test.YtkbdnjhgcoihhaaGreatDoorPg
import Derived.Test.YtkbdnjhgcoihhaaGreatDoorPh
import Derived.Test.YtkbdnjhgcoihhaaGreatDoorPi
import Derived.Test.YtkbdnjhgcoihhaaGreatDoorPk
import Derived.Test.YtkbdnjhgcoihhaaGreatDoorPl
import Derived.Test.YtkbdnjhgcoihhaaGreatDoorPp
import Derived.Test.YtkbdnjhgcoihhaaGreatDoorPq
import Derived.Test.YtkbdnjhgcoihhaaGreatDoorPr
import Derived.Test.YtkbdnjhgcoihhaaGreatDoorPs
import Derived.Test.YtkbdnjhgcoihhaaGreatDoorPt
import Derived.Test.YtkbdnjhgcoihhaaGreatDoorPu
import Derived.Test.YtkbdnjhgcoihhaaGreatDoorPv
import Derived.Test.YtkbdnjhgcoihhaaGreatDoorPw
import Derived.Test.YtkbdnjhgcoihhaaGreatDoorTp
import Derived.Test.YtkbdnjhgcoihhaaGreatDoorShelf
import Derived.Test.YtkbdnjhgcoihhaaGreatDoorRa
import Derived.Test.YtkbdnjhgcoihhaaGreatDoorRb
import Derived.Test.YtkbdnjhgcoihhaaGreatDoorRc
import Derived.Test.YtkbdnjhgcoihhaaGreatDoorRd
import Derived.Test.YtkbdnjhgcoihhaaGreatDoorRe
import Derived.Test.YtkbdnjhgcoihhaaGreatDoorRf
import Derived.Test.YtkbdnjhgcoihhaaGreatDoorRg
import Derived.Test.YtkbdnjhgcoihhaaGreatDoorRh
import Derived.WalkKit
import Derived.WalkSpells
import Derived.WalkLawsBesides
import Derived.Lib.Hide
import Derived.Deep.RegionHeld3
import Derived.Deep.QuietTactic
import Derived.BigQuiet
import Derived.Handy
import Derived.Deep.DeepCutAuto
import Derived.Maps.AppendAt
namespace Go.Proofs.YtkbdnjhgcoihhaaGreatDoor
open Go.RowKit

/-- append of one struct of two cells, and where the answer lies -/
theorem wpList_app2_at {P : Program} {ops : Array Oper} {rest : List Oper} {o : Oper} {a : Act} {Q : Exit → Act → World → Prop} (w : World) (hgd : o.guard = none) (s x : Operand) (t : TypeId)
    (ho : o.op = .call { callee := .builtin .append, args := #[s, x], argTypes := #[t, t] }) (base : Nat) (e : TypeId) (z : Value) (bytes : Nat)
    (ht : P.underlying t = some (.slice e)) (hinfo : (P.info? e).map (fun i => (i.zero, i.size, i.bytes)) = some (some z, 2, bytes)) (hzs : z.cells.size = 2)
    (v : Value) (n : Nat) (xs : List Value) (hs : a.eval s = v) (hown : w.ownsRow base e 2 v n xs) (g : Nat) (u0 u1 : Value) (hx : a.eval x = .slice (some ⟨g, 0, none⟩) 1 1) (hc0 : w.cell? ⟨g, 0, none⟩ = some u0) (hc1 : w.cell? ⟨g, 1, none⟩ = some u1) (hu0 : u0.oneCell' = true) (hu1 : u1.oneCell' = true)
    (h63 : n + 1 ≤ maxLen) (hbytes : (n + 1) * bytes ≤ 140737488355328) (hbase : base ≤ w.heap.size)
    (h : ∀ v' w', w'.ownsRow base e 2 v' (n + 1) (xs ++ [u0, u1]) → w.grownBy w' v.ownBlock → (v'.ownBlock = v.ownBlock ∨ v'.ownBlock = some w.heap.size) → wpList P ops Q rest (a.put o.dst v') w') : wpList P ops Q (o :: rest) a w := by
  obtain ⟨i0, hi, hz0, hz1, hz2⟩ := info_parts hinfo
  refine wpList_append_own_at _ hgd s x t ho base e i0 z 2 bytes ht hi hz0 hz1 hz2 hzs (by omega) v n xs hs hown ⟨g, 0, none⟩ 1 1 [u0, u1] hx rfl ?_ ?_ h63 hbytes hbase ?_
  · intro j y hj
    match j, hj with
    | 0, hj => simp at hj; subst hj; simpa [Addr.add] using hc0
    | 1, hj => simp at hj; subst hj; simpa [Addr.add] using hc1
  · intro y hy; simp at hy; rcases hy with rfl | rfl
    · exact hu0
    · exact hu1
  · intro v' w' h1 h2 _ h4
    exact h v' w' h1 h2 h4
/-- an assignment on values -/
def asgP (ts : List Tk) (F a : Nat) (ns : List Nd) : Option PR :=
  if (tkA ts a).1 ≠ 2 then some (.bad (offA ts a))
  else if symA ts (a + 1) ≠ ⟨#[61]⟩ then some (.bad (offA ts (a + 1)))
  else match par ts F (.bin true (a + 2) 1 ns) with
    | some (.ok r a' ns') => if symA ts a' = ⟨#[59]⟩ then some (.ok r (a' + 1) ns') else some (.bad (offA ts a'))
    | x => x
theorem prs_step {ts : List Tk} {F f a : Nat} {ns : List Nd} {ys : List As} (h : (tkA ts a).1 ≠ 0) : prsP ts F (f + 1) a ns ys = match asgP ts F a ns with
    | some (.ok r a' ns') => prsP ts F f a' ns' (ys ++ [((tkA ts a).2.1, (r : Int))])
    | some (.bad o) => some (.bad o)
    | none => none := by
  rw [prsP]
  unfold asgP
  rw [if_neg h]
  by_cases h2 : (tkA ts a).1 ≠ 2
  · rw [if_pos h2, if_pos h2]
  · rw [if_neg h2, if_neg h2]
    by_cases h3 : symA ts (a + 1) ≠ ⟨#[61]⟩
    · rw [if_pos h3, if_pos h3]
    · rw [if_neg h3, if_neg h3]
      cases par ts F (.bin true (a + 2) 1 ns) with
      | none => rfl
      | some R =>
        cases R with
        | bad o => rfl
        | ok r a' ns' =>
          simp only
          by_cases h4 : symA ts a' = ⟨#[59]⟩
          · rw [if_pos h4, if_pos h4]
          · rw [if_neg h4, if_neg h4]
theorem asg_good {ts : List Tk} (h : EndsT ts) {F a : Nat} {ns : List Nd} {r a' : Nat} {ns' : List Nd} (ha : a < ts.length) (hp : asgP ts F a ns = some (.ok r a' ns')) : a' < ts.length ∧ a < a' := by
  unfold asgP at hp
  split at hp
  · cases hp
  rename_i h2
  have h2 : (tkA ts a).1 = 2 := by simpa using h2
  have hk := kind_next h ha (by rw [h2]; decide)
  split at hp
  · cases hp
  rename_i h3
  have h3 : symA ts (a + 1) = ⟨#[61]⟩ := by simpa using h3
  have hk2 := sym_next h hk h3 (by decide)
  cases hR : par ts F (.bin true (a + 2) 1 ns) with
  | none => rw [hR] at hp; cases hp
  | some R =>
    rw [hR] at hp
    have hG := par_good h F (.bin true (a + 2) 1 ns) _ hk2 hR
    cases R with
    | bad o => cases hp
    | ok r1 a1 ns1 =>
      have hg := hG _ _ _ rfl
      simp only [atM] at hg
      simp only at hp
      split at hp
      · rename_i h4
        have hk3 := sym_next h hg.1 h4 (by decide)
        injection hp with hp
        injection hp with e1 e2 e3
        omega
      · cases hp
/-- the assignments under way -/
structure AsgS (w : World) (base S : Nat) (NA : Option Addr) (ps : List PN) (BA : Option Addr) (bc : Nat) (ys : List As) : Prop where
  own : w.ownsRow base 43 2 (.slice BA ys.length bc) ys.length (ys.flatMap asg)
  apN : Apart NA BA
  apS : blk BA ≠ some S
  apA : ∀ p ∈ ps, Apart p.1.1 BA
section
variable {w w' : World} {base S : Nat} {A NA NA' BA : Option Addr} {ps ps' : List PN} {c a nc bc : Nat} {ys : List As} {ts : List Tk} {x3 : Value}
theorem AsgS.later (h : AsgS w base S NA ps BA bc ys) (hb : Below w.heap.size w w') : AsgS w' base S NA ps BA bc ys := ⟨own_keep' h.own hb, h.apN, h.apS, h.apA⟩
theorem AsgS.step (h : AsgS w base S NA ps BA bc ys) (ht : Turn (TS S NA) w w') (hn : NewN w NA NA') (hf : FrA w ps ps') : AsgS w' base S NA' ps' BA bc ys where
  own := own_keepN h.own (fun b hb => ht.block (h.own.lt b hb).2 (fun c => by
    rcases c with c | c
    · exact h.apS (by rw [← c]; exact blk_of hb)
    · exact h.apN b c (blk_of hb)))
  apN := fun k hk he => by
    rcases hn with e | ⟨j, e, hj⟩
    · exact h.apN k (by rw [← e]; exact hk) he
    · rw [e] at hk
      injection hk with hk
      have := (h.own.lt k (of_blk he)).2
      omega
  apS := h.apS
  apA := fun p hp k hk he => by
    rcases hf p hp k hk with hge | ⟨p0, hp0, hb0⟩
    · have := (h.own.lt k (of_blk he)).2
      omega
    · exact h.apA p0 hp0 k hb0 he
end
/-- what readAssignment leaves -/
def AsgPost (base S : Nat) (A : Option Addr) (c : Nat) (ts : List Tk) (nm : ByteArray) (ys : List As) (R : PR) (w : World) (e : Ending) (w' : World) : Prop :=
  match R with
  | .bad o => e = .panicked (panicV o) ∧ Below base w w'
  | .ok r a' ns' => e = .returned (.tuple #[]) ∧ Below base w w' ∧ ∃ (NA' : Option Addr) (nc' : Nat) (ps' : List PN) (BA' : Option Addr) (bc' : Nat), ps'.map Prod.snd = ns' ∧ PSq w' base S A c a' ts NA' nc' ps' (.slice BA' (ys ++ [(nm, (r : Int))]).length bc') ∧ AsgS w' base S NA' ps' BA' bc' (ys ++ [(nm, (r : Int))]) ∧ ps'.length ≤ 60
theorem infoAsgQ : (Tryz.prog.info? 43).map (fun i => (i.zero, i.size, i.bytes)) = some (some (.agg #[.string ⟨#[]⟩, .int .i64 0]), 2, 24) := by kernel_rfl

set_option maxRecDepth 100000 in
set_option maxHeartbeats 8000000 in
theorem asgn_any (F : Nat) (w : World) (base S c a nc : Nat) (A NA : Option Addr) (ts : List Tk) (ps : List PN) (BA : Option Addr) (bc : Nat) (ys : List As) (R : PR) (hT : TsG ts) (h : PSq w base S A c a ts NA nc ps (.slice BA ys.length bc)) (hA : AsgS w base S NA ps BA bc ys) (hn : ps.length ≤ 60) (ha : a < ts.length) (hy : ys.length ≤ 1048576) (hp : asgP ts F a (ps.map Prod.snd) = some R) :
    Calls Tryz.prog 16 #[.pointer (some ⟨S, 0, none⟩)] w (AsgPost base S A c ts (tkA ts a).2.1 ys R w) := by
  unfold asgP at hp
  have hpk := peek_any S c a A ts (.slice NA ps.length nc) (.slice BA ys.length bc) w h.box h.rows ha h.lt
  have hrd := fun w1 (hb : Below w.heap.size w w1) => read_any S c a A ts (.slice NA ps.length nc) (.slice BA ys.length bc) w1 (h.later hb).box (h.later hb).rows ha (h.later hb).lt hT.ok.len
  have HTS := Lib.hid hT
  have H0 := Lib.hid h
  have HA0 := Lib.hid hA
  have HIE := Lib.hid ((partsQ_any F F (Nat.le_refl _)).2.2)
  obtain ⟨v, hv⟩ : ∃ v, v = tkA ts a := ⟨_, rfl⟩
  rw [← hv] at hpk hp ⊢
  have hrd : ∀ w1, Below w.heap.size w w1 → Calls Tryz.prog 29 #[.pointer (some ⟨S, 0, none⟩)] w1 fun e w' => e = .returned (tkv v) ∧ Turn (fun k => k = S) w1 w' ∧ Mbox w' S [.slice A ts.length c, .int .i64 ((a + 1 : Nat) : Int), .slice NA ps.length nc, .slice BA ys.length bc] := fun w1 hb => by rw [hv]; exact hrd w1 hb
  have HV := Lib.hid hv
  obtain ⟨v0, v1, v2, v3⟩ := v
  dsimp only [tkv, tok] at hpk hrd hp ⊢
  have hfl0 := fun w => tok_fld0 v0 v2 v3 v1 w
  have hfl1 := fun w => tok_fld1 v0 v2 v3 v1 w
  have HPK := Lib.hid hpk
  have HRD := Lib.hid hrd
  have HP := Lib.hid hp
  clear h hA hp hpk hrd hv hT
  go_enter Tryz.func16, Tryz.ntmps16
  go_wp2_with fail
  refine HPK.out.mono ?_
  rintro e w1 ⟨rfl, hb1⟩
  have HB1 := Lib.hid hb1
  clear hb1 HPK
  by_cases k2 : v0 = 2
  · have k2' : (v0 != 2) = false := by simp [k2]
    have hp := HP.out
    rw [if_neg (by simp [k2])] at hp
    have h1 := kind_next HTS.out.ok.ends ha (by rw [← HV.out]; show v0 ≠ 0; omega)
    have HR1 := Lib.hid (HRD.out w1 HB1.out)
    have HP1 := Lib.hid hp
    clear hp k2 HP HRD
    go_wp2_with fail
    refine HR1.out.mono ?_
    rintro e w2 ⟨rfl, ht2, hm2⟩
    have hst2 := (H0.out.later HB1.out).turned (a' := a + 1) ht2 hm2
    have HT2 : Hid (Turn (TS S NA) w w2) := Lib.hid ((Turn.of_later HB1.out).trans (ht2.mono fun k e => .inl e))
    have HST2 := Lib.hid hst2
    clear ht2 hm2 HR1
    by_cases s1 : symA ts (a + 1) = ⟨#[61]⟩
    · have hp := HP1.out
      rw [if_neg (by simp [s1])] at hp
      have h2 := sym_next HTS.out.ok.ends h1 s1 (by decide)
      have HEX := Lib.hid (expect_yes 61 S c (a + 1) A ts (.slice NA ps.length nc) (.slice BA ys.length bc) w2 hst2.box hst2.rows h1 hst2.lt HTS.out.ok.len (by decide) (HTS.out.form _ h1) s1)
      have hR1 : ∃ R1, par ts F (.bin true (a + 2) 1 (ps.map Prod.snd)) = some R1 := by
        cases e : par ts F (.bin true (a + 2) 1 (ps.map Prod.snd)) with
        | none => rw [e] at hp; cases hp
        | some R1 => exact ⟨R1, rfl⟩
      obtain ⟨R1, hR1⟩ := hR1
      rw [hR1] at hp
      have HGD := Lib.hid (par_good HTS.out.ok.ends F (.bin true (a + 2) 1 (ps.map Prod.snd)) _ h2 hR1)
      have HPP := Lib.hid hp
      have HR1 := Lib.hid hR1
      clear hp s1 HP1 hR1 hst2
      go_wp2_with fail
      refine HEX.out.mono ?_
      rintro e w3 ⟨rfl, ht3, hm3⟩
      have hst3 := HST2.out.turned (a' := a + 2) ht3 hm3
      have HT3 : Hid (Turn (TS S NA) w w3) := Lib.hid (HT2.out.trans (ht3.mono fun k e => .inl e))
      have HCL := Lib.hid (HIE.out w3 base S c (a + 2) 1 nc A NA ts ps (.slice BA ys.length bc) R1 HTS.out hst3 hn h2 (by omega) HR1.out)
      clear ht3 hm3 hst3 HEX HST2 HT2
      go_wp2_with fail
      refine HCL.out.mono ?_
      rintro e w4 hpp
      clear HCL
      cases R1 with
      | bad o1 =>
        obtain ⟨rfl, hb⟩ := hpp
        have hp2 := HPP.out
        injection hp2 with hp2
        rw [← hp2]
        exact ⟨rfl, rfl, (H0.out.under HT3.out).trans hb⟩
      | ok r1 a1 ns1 =>
        obtain ⟨rfl, NA1, nc1, ps1, hps1, hst4, ht4, hn4, hl4, hf4⟩ := hpp
        subst hps1
        have hg := HGD.out _ _ _ rfl
        have hT4 := turn_chain HT3.out (newN_refl w NA) ht4
        have HT4 := Lib.hid hT4
        have HA4 := Lib.hid (HA0.out.step hT4 (newN_trans HT3.out.size (newN_refl w NA) hn4) (FrA.trans (FrA.refl w ps) HT3.out.size hf4))
        have HST4 := Lib.hid hst4
        clear ht4 hn4 hf4 hT4 HT3
        have hp2 := HPP.out
        simp only at hp2
        by_cases s3 : symA ts a1 = ⟨#[59]⟩
        · rw [if_pos s3] at hp2
          injection hp2 with hp2
          have HEX := Lib.hid (expect_yes 59 S c a1 A ts (.slice NA1 ps1.length nc1) (.slice BA ys.length bc) w4 hst4.box hst4.rows hg.1 hst4.lt HTS.out.ok.len (by decide) (HTS.out.form a1 hg.1) s3)
          have HP2 := Lib.hid hp2
          clear hst4 hp2 s3 HPP
          go_wp2_with fail
          refine HEX.out.mono ?_
          rintro e w5 ⟨rfl, ht5, hm5⟩
          have hst5 := HST4.out.turned (a' := a1 + 1) ht5 hm5
          have hag5 := HA4.out.step (ht5.mono fun k e => .inl e) (newN_refl w4 NA1) (FrA.refl w4 ps1)
          have hBT : Below base w w5 := (H0.out.under HT4.out).trans (HST4.out.under (ht5.mono fun k e => .inl e))
          have hb6 : Below w5.heap.size w5 (w5.alloc (.cells #[.string v1, .int .i64 (r1 : Nat)] 43)) := by go_grown
          have hst6 := hst5.later hb6
          have hag6 := hag5.later hb6
          have hM6 := Mbox.new w5 #[.string v1, .int .i64 (r1 : Nat)] 43
          have hBT6 := hBT.trans (hb6.mono hst5.baseLe)
          have q3 := hst5.box.c 3
          have HST6 := Lib.hid hst6
          have HAG6 := Lib.hid hag6
          have HBT6 := Lib.hid hBT6
          have e0 := hM6.c 0
          have e1 := hM6.c 1
          have hbs := hst6.baseLe
          clear ht5 hm5 hst5 hag5 hBT hb6 hst6 hag6 hM6 hBT6 HEX HST4 HA4 HT4
          go_wp2_with (at_builtin; refine wpList_app2_at _ rfl _ _ 23 rfl base 43 (.agg #[.string ⟨#[]⟩, .int .i64 0]) 24 Tryz.underlying23 infoAsgQ rfl (.slice BA ys.length bc) ys.length (ys.flatMap asg) (by rfl) HAG6.out.own w5.heap.size (.string v1) (.int .i64 (r1 : Nat)) (by rfl) e0 e1 (by rfl) (by rfl) (by unfold maxLen; omega) (by omega) hbs ?_)
          intro v7 w7 ho7 hg7 hat7
          obtain ⟨BA7, bc7, rfl⟩ := own_shape ho7
          rw [own_blk, own_blk] at hat7
          have ht7 := turn_argA hg7
          have hst7 : PSq w7 base S A c (a1 + 1) ts NA1 nc1 ps1 (.slice BA ys.length bc) := {
            box := HST6.out.box.keep fun _ => ht7.block HST6.out.lt HAG6.out.apS
            low := HST6.out.low
            lt := Nat.lt_of_lt_of_le HST6.out.lt ht7.size
            toks := HST6.out.toks.below (ht7.below hbs (fun k e => (HAG6.out.own.lt k (of_blk e)).1))
            nodes := ⟨own_keepN HST6.out.nodes.1 (fun b hbk => ht7.block (HST6.out.nodes.1.lt b hbk).2 (fun e => HAG6.out.apN b (blk_of hbk) e)), fun i hi => ⟨qo_keep (HST6.out.nodes.2.1 i hi).1 (fun b hbk => ht7.block (qo_lt (HST6.out.nodes.2.1 i hi).1 hbk) (fun e => HAG6.out.apA _ (List.getElem_mem hi) b hbk e)), (HST6.out.nodes.2.1 i hi).2⟩, HST6.out.nodes.2.2⟩
            apN := HST6.out.apN
            apA := HST6.out.apA }
          have hnewB : ∀ k, blk BA7 = some k → blk BA = some k ∨ (w5.alloc (.cells #[.string v1, .int .i64 (r1 : Nat)] 43)).heap.size = k := fun k hk => by
            rcases hat7 with e | e
            · exact .inl (by rw [← e]; exact hk)
            · rw [e] at hk
              injection hk with hk
              exact .inr (by simpa using hk)
          have hys : (ys ++ [(v1, (r1 : Int))]).flatMap asg = ys.flatMap asg ++ [.string v1, .int .i64 (r1 : Nat)] := by simp [asg]
          have hyl : (ys ++ [(v1, (r1 : Int))]).length = ys.length + 1 := by simp
          have hag7 : AsgS w7 base S NA1 ps1 BA7 bc7 (ys ++ [(v1, (r1 : Int))]) := {
            own := by rw [hyl, hys]; exact ho7
            apN := fun k hk he => by
              rcases hnewB k he with e | e
              · exact HAG6.out.apN k hk e
              · have := (HST6.out.nodes.1.lt k (of_blk hk)).2
                omega
            apS := fun he => by
              rcases hnewB S he with e | e
              · exact HAG6.out.apS e
              · have := HST6.out.lt
                omega
            apA := fun p hp k hk he => by
              rcases hnewB k he with e | e
              · exact HAG6.out.apA p hp k hk e
              · obtain ⟨i, hi, rfl⟩ := List.getElem_of_mem hp
                have := qo_lt (HST6.out.nodes.2.1 i hi).1 hk
                omega }
          have hb7 : Below base w w7 := HBT6.out.trans (ht7.below hbs (fun k e => (HAG6.out.own.lt k (of_blk e)).1))
          have g3 := hst7.box.f 3
          have q3' := hst7.box.c 3
          have hbx := hst7.box.put 3 (.slice BA7 (ys.length + 1) bc7)
          have ht8 : Turn (fun k => k = S) w7 (w7.setCell ⟨S, 3, none⟩ (.slice BA7 (ys.length + 1) bc7)) := (Turn.refl (fun k => k = S) w7).setCell (g := S) (i := 3) rfl _
          have hag8 := hag7.step (ht8.mono fun k e => .inl e) (newN_refl w7 NA1) (FrA.refl w7 ps1)
          have hst8 : PSq (w7.setCell ⟨S, 3, none⟩ (.slice BA7 (ys.length + 1) bc7)) base S A c (a1 + 1) ts NA1 nc1 ps1 (.slice BA7 (ys.length + 1) bc7) := {
            box := hbx
            low := hst7.low
            lt := Nat.lt_of_lt_of_le hst7.lt ht8.size
            toks := hst7.toks.below (ht8.below hst7.baseLe (fun k e => by rw [e]; exact hst7.low))
            nodes := ⟨own_keepN hst7.nodes.1 (fun b hbk => ht8.block (hst7.nodes.1.lt b hbk).2 (fun e => hst7.apN (by rw [← e]; exact blk_of hbk))), fun i hi => ⟨qo_keep (hst7.nodes.2.1 i hi).1 (fun b hbk => ht8.block (qo_lt (hst7.nodes.2.1 i hi).1 hbk) (fun e => hst7.apA i hi (by rw [← e]; exact hbk))), (hst7.nodes.2.1 i hi).2⟩, hst7.nodes.2.2⟩
            apN := hst7.apN
            apA := hst7.apA }
          have hb8 : Below base w (w7.setCell ⟨S, 3, none⟩ (.slice BA7 (ys.length + 1) bc7)) := hb7.trans (ht8.below hst7.baseLe (fun k e => by rw [e]; exact hst7.low))
          have HZ : Hid (AsgPost base S A c ts v1 ys R w (.returned (.tuple #[])) (w7.setCell ⟨S, 3, none⟩ (.slice BA7 (ys.length + 1) bc7))) := Lib.hid (by
            rw [← HP2.out]
            exact ⟨rfl, hb8, NA1, nc1, ps1, BA7, bc7, rfl, by rw [hyl]; exact hst8, hag8, hl4⟩)
          clear hst8 hag8 hb8 hbx ht8 hb7 hag7 hyl hys hnewB hst7 ht7 hat7 hg7 ho7 e0 e1 q3 HST6 HAG6 HBT6 HP2
          go_wp2_with fail
          (first | go_end0 | refine bodyPost_ret (results_none rfl _ _ _) rfl ?_)
          exact HZ.out
        · rw [if_neg s3] at hp2
          injection hp2 with hp2
          have HEX := Lib.hid (expect_no 59 S c a1 A ts (.slice NA1 ps1.length nc1) (.slice BA ys.length bc) w4 hst4.box hst4.rows hg.1 hst4.lt HTS.out.ok.len (by decide) (HTS.out.form a1 hg.1) s3)
          have HP2 := Lib.hid hp2
          clear hst4 hp2 s3 HPP
          go_wp2_with fail
          refine HEX.out.mono ?_
          rintro e w5 ⟨rfl, hb5⟩
          rw [← HP2.out]
          exact ⟨rfl, rfl, (H0.out.under HT4.out).trans (hb5.mono HST4.out.baseLe)⟩
    · have hp := HP1.out
      rw [if_pos (by simp [s1])] at hp
      injection hp with hp
      have HEX := Lib.hid (expect_no 61 S c (a + 1) A ts (.slice NA ps.length nc) (.slice BA ys.length bc) w2 hst2.box hst2.rows h1 hst2.lt HTS.out.ok.len (by decide) (HTS.out.form _ h1) s1)
      have HP2 := Lib.hid hp
      clear hst2 hp s1 HP1
      go_wp2_with fail
      refine HEX.out.mono ?_
      rintro e w3 ⟨rfl, hb3⟩
      rw [← HP2.out]
      exact ⟨rfl, rfl, (H0.out.under HT2.out).trans (hb3.mono HST2.out.baseLe)⟩
  · have k2' : (v0 != 2) = true := by simp [k2]
    have hp := HP.out
    rw [if_pos k2] at hp
    injection hp with hp
    have hst1 := H0.out.later HB1.out
    have HRJ := Lib.hid (reject_any S c a A ts (.slice NA ps.length nc) (.slice BA ys.length bc) w1 hst1.box hst1.rows ha hst1.lt)
    have HP2 := Lib.hid hp
    clear hst1 hp k2 HP HRD
    go_wp2_with fail
    refine HRJ.out.mono ?_
    rintro e w2 ⟨rfl, hb2⟩
    rw [← HP2.out]
    exact ⟨rfl, rfl, (HB1.out.mono H0.out.baseLe).trans (hb2.mono (Nat.le_trans H0.out.baseLe HB1.out.size))⟩
end Go.Proofs.YtkbdnjhgcoihhaaGreatDoor
