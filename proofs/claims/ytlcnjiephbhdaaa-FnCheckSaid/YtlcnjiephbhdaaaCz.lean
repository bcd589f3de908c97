/- Merged texts: Rj. -/
import Derived.Test.YtlcnjiephbhdaaaProg
import Derived.Test.YtlcnjiephbhdaaaC0
import Derived.Test.YtlcnjiephbhdaaaC1
import Derived.Test.YtlcnjiephbhdaaaC7
import Derived.Test.YtlcnjiephbhdaaaC8
import Derived.Test.YtlcnjiephbhdaaaC9
import Derived.WalkKit
import Derived.WalkSpells
import Derived.WalkLawsBesides
import Derived.Lib.Hide
import Derived.Deep.RegionHeld3
import Derived.Deep.QuietTactic
import Derived.BigQuiet
import Derived.Handy
import Derived.Deep.DeepCutAuto
import Derived.Deep.AppendLies
import Derived.Deep.RegionLaw
namespace Go.Proofs.Ytlcnjiephbhdaaa
section
open Go.RowKit

section
variable {w w' w5 : World} {base S : Nat} {A NA NA' BA BA' : Option Addr} {ps ps' : List PN} {c a nc bc bc' : Nat} {ys : List As} {ts : List Tk} {x3 : Value}
theorem PSt.baseLe (h : PSt w base S A c a ts NA nc ps x3) : base ≤ w.heap.size := Nat.le_of_lt (Nat.lt_of_le_of_lt h.low h.lt)
theorem asg_step (h : PSt w base S A c a ts NA nc ps x3) (hg : AsgS w base S NA ps BA bc ys) (ht : Turn (fun k => blk BA = some k) w w5) {v : ByteArray} {r : Int} (ho : w5.ownsRow base 33 2 (.slice BA' (ys.length + 1) bc') (ys.length + 1) (ys.flatMap asg ++ [.string v, .int .i64 r])) (hat : blk BA' = blk BA ∨ ∃ k, blk BA' = some k ∧ w.heap.size ≤ k) :
    PSt (w5.setCell ⟨S, 3, none⟩ (.slice BA' (ys.length + 1) bc')) base S A c a ts NA nc ps (.slice BA' (ys ++ [(v, r)]).length bc') ∧ AsgS (w5.setCell ⟨S, 3, none⟩ (.slice BA' (ys.length + 1) bc')) base S NA ps BA' bc' (ys ++ [(v, r)]) ∧ Below base w (w5.setCell ⟨S, 3, none⟩ (.slice BA' (ys.length + 1) bc')) := by
  have hbs := h.baseLe
  have hst7 : PSt w5 base S A c a ts NA nc ps x3 := {
    box := h.box.keep fun _ => ht.block h.lt hg.apS
    low := h.low
    lt := Nat.lt_of_lt_of_le h.lt ht.size
    toks := h.toks.below (ht.below hbs (fun k e => (hg.own.lt k (of_blk e)).1))
    nodes := ⟨own_keepN h.nodes.1 (fun b hbk => ht.block (h.nodes.1.lt b hbk).2 (fun e => hg.apN b (blk_of hbk) e)), fun i hi => ⟨qo_keep (h.nodes.2.1 i hi).1 (fun b hbk => ht.block (qo_lt (h.nodes.2.1 i hi).1 hbk) (fun e => hg.apA _ (List.getElem_mem hi) b hbk e)), (h.nodes.2.1 i hi).2⟩, h.nodes.2.2⟩
    apN := h.apN
    apA := h.apA }
  have hys : (ys ++ [(v, r)]).flatMap asg = ys.flatMap asg ++ [.string v, .int .i64 r] := by simp [asg]
  have hyl : (ys ++ [(v, r)]).length = ys.length + 1 := by simp
  have hnewB : ∀ k, blk BA' = some k → blk BA = some k ∨ w.heap.size ≤ k := fun k hk => by
    rcases hat with e | ⟨j, e, hj⟩
    · exact .inl (by rw [← e]; exact hk)
    · rw [e] at hk
      injection hk with hk
      exact .inr (by omega)
  have hag7 : AsgS w5 base S NA ps BA' bc' (ys ++ [(v, r)]) := {
    own := by rw [hyl, hys]; exact ho
    apN := fun k hk he => by
      rcases hnewB k he with e | e
      · exact hg.apN k hk e
      · have := (h.nodes.1.lt k (of_blk hk)).2
        omega
    apS := fun he => by
      rcases hnewB S he with e | e
      · exact hg.apS e
      · have := h.lt
        omega
    apA := fun p hp k hk he => by
      rcases hnewB k he with e | e
      · exact hg.apA p hp k hk e
      · obtain ⟨i, hi, rfl⟩ := List.getElem_of_mem hp
        have := qo_lt (h.nodes.2.1 i hi).1 hk
        omega }
  have hb7 : Below base w w5 := ht.below hbs (fun k e => (hg.own.lt k (of_blk e)).1)
  have hbx := hst7.box.put 3 (.slice BA' (ys.length + 1) bc')
  have ht8 : Turn (fun k => k = S) w5 (w5.setCell ⟨S, 3, none⟩ (.slice BA' (ys.length + 1) bc')) := (Turn.refl (fun k => k = S) w5).setCell (g := S) (i := 3) rfl _
  have hag8 := hag7.step (ht8.mono fun k e => .inl e) (newN_refl w5 NA) (FrA.refl w5 ps)
  refine ⟨{
    box := by rw [hyl]; exact hbx
    low := hst7.low
    lt := Nat.lt_of_lt_of_le hst7.lt ht8.size
    toks := hst7.toks.below (ht8.below hst7.baseLe (fun k e => by rw [e]; exact hst7.low))
    nodes := ⟨own_keepN hst7.nodes.1 (fun b hbk => ht8.block (hst7.nodes.1.lt b hbk).2 (fun e => hst7.apN (by rw [← e]; exact blk_of hbk))), fun i hi => ⟨qo_keep (hst7.nodes.2.1 i hi).1 (fun b hbk => ht8.block (qo_lt (hst7.nodes.2.1 i hi).1 hbk) (fun e => hst7.apA i hi (by rw [← e]; exact hbk))), (hst7.nodes.2.1 i hi).2⟩, hst7.nodes.2.2⟩
    apN := hst7.apN
    apA := hst7.apA }, hag8, hb7.trans (ht8.below hst7.baseLe (fun k e => by rw [e]; exact hst7.low))⟩
end
/-- what is left of the tokens -/
theorem leftQ_st {w : World} {base S : Nat} {A : Option Addr} {c a : Nat} {ts : List Tk} {NA : Option Addr} {nc : Nat} {ps : List PN} {x3 : Value} (h : PSt w base S A c a ts NA nc ps x3) : leftQ S ts.length w = ts.length + 1 - a := by
  unfold leftQ
  rw [h.box.c 1]
  simp

set_option maxRecDepth 100000 in
set_option maxHeartbeats 16000000 in
theorem sParse_any (s : ByteArray) (w : World) :
    Calls Try.prog 22 #[.string s] w (ParsePost s w) := by
  obtain ⟨i9, hi9, hz90, hz91, hz92⟩ := info_parts infoAsgQ
  have HT0 : Held w (w.alloc (.cells #[.slice none 0 0, .slice none 0 0] 26)) [(w.heap.size, [.slice none 0 0, .slice none 0 0])] := (Held.nil w).new #[.slice none 0 0, .slice none 0 0] 26
  have htk := sTok_any s (w.alloc (.cells #[.slice none 0 0, .slice none 0 0] 26))
  obtain ⟨W1, hW1⟩ : ∃ W, W = w.alloc (.cells #[.slice none 0 0, .slice none 0 0] 26) := ⟨_, rfl⟩
  rw [← hW1] at HT0 htk
  have HTK := Lib.hid htk
  have hoff := tokP_off s
  have HG := Lib.hid (fun h => tokP_good (s := s) h)
  have HPR : Hid (parseR s = if (tokP s).2 = -1 then (prsP (tokP s).1 (4 * (tokP s).1.length + 4) ((tokP s).1.length + 1) 0 [] []).getD (.bad 0) else .bad (tokP s).2) := Lib.hid rfl
  obtain ⟨ts, hts⟩ : ∃ ts, ts = (tokP s).1 := ⟨_, rfl⟩
  obtain ⟨r2, hr2⟩ : ∃ r2, r2 = (tokP s).2 := ⟨_, rfl⟩
  have HR2 := Lib.hid hr2
  have HTT := Lib.hid hts
  rw [← hts, ← hr2] at HPR
  rw [← hr2] at hoff
  have HOFF := Lib.hid hoff
  clear htk hts hr2 hoff
  go_enter Try.func22, Try.ntmps22
  go_upto_region 1 with fail
  rw [← hW1]
  clear hW1
  go_wp2_with fail
  refine HTK.out.mono ?_
  rintro e w2 ⟨A, c, rfl, hown, hb2⟩
  have HT2 := HT0.later hb2
  rw [← HTT.out] at hown ⊢
  rw [← HR2.out]
  have HO := Lib.hid hown
  clear hb2 hown HTK
  by_cases h1 : r2 = -1
  · have hTS : TsG ts := by rw [HTT.out]; exact HG.out (by rw [← HR2.out]; exact h1)
    have hPR : parseR s = (prsP ts (4 * ts.length + 4) (ts.length + 1) 0 [] []).getD (.bad 0) := by rw [HPR.out, if_pos h1]
    obtain ⟨R, hR⟩ := prs_some hTS.ok.ends (ts.length + 1) 0 [] [] hTS.ok.ends.1 (by omega)
    rw [hR] at hPR
    have hPR : parseR s = R := hPR
    have HPV := Lib.hid hPR
    have HPS := Lib.hid hR
    have HTS := Lib.hid hTS
    have HLEN : Hid (ts.length ≤ 2001) := Lib.hid (by
      rw [HTT.out]
      unfold tokP
      split
      · simp
      · rename_i hs
        have := tok_len (s := s) _ 0 [] rfl (Nat.le_refl _) (Nat.zero_le _)
        omega)
    subst h1
    clear hPR hR hTS HPR HG HTT HR2 HOFF
    have hb3 : Below w2.heap.size w2 (w2.alloc (.cells #[.slice A ts.length c, .int .i64 0, .slice none 0 0, .slice none 0 0, .int .i64 (-1)] 77)) := by go_grown
    have MS := Mbox.new w2 #[.slice A ts.length c, .int .i64 0, .slice none 0 0, .slice none 0 0, .int .i64 (-1)] 77
    have HT3 := HT2.later hb3
    have hlt3 : w2.heap.size < (w2.alloc (.cells #[.slice A ts.length c, .int .i64 0, .slice none 0 0, .slice none 0 0, .int .i64 (-1)] 77)).heap.size := by simp
    have hRow : RowC 4 tkg (w2.alloc (.cells #[.slice A ts.length c, .int .i64 0, .slice none 0 0, .slice none 0 0, .int .i64 (-1)] 77)) w2.heap.size A ts := (RowC.of_own tkg_len HO.out rfl).below hb3
    obtain ⟨W3, hW3⟩ : ∃ W, W = w2.alloc (.cells #[.slice A ts.length c, .int .i64 0, .slice none 0 0, .slice none 0 0, .int .i64 (-1)] 77) := ⟨_, rfl⟩
    obtain ⟨S, hS⟩ : ∃ S, S = w2.heap.size := ⟨_, rfl⟩
    rw [← hW3] at MS HT3 hlt3 hRow
    rw [← hS] at MS hlt3 hRow
    have hst0 : PSt W3 S S A c 0 ts none 0 [] (.slice none 0 0) := {
      box := MS
      low := Nat.le_refl _
      lt := hlt3
      toks := hRow
      nodes := ⟨World.ownsRow_nil _ _ _ _, (fun i hi => by simp at hi), (fun i j hi => by simp at hi)⟩
      apN := (fun h => by cases h)
      apA := (fun i hi => by simp at hi) }
    have hag0 : AsgS W3 S S none [] none 0 [] := ⟨World.ownsRow_nil _ _ _ _, (fun k h => by cases h), (fun h => by cases h), (fun p hp => by cases hp)⟩
    have hP0 : w.heap.size < S := by
      rw [hS]
      exact (HT2.box 0).lt
    have HST0 := Lib.hid hst0
    have HAG0 := Lib.hid hag0
    have HH3 := Lib.hid HT3
    have HP0 := Lib.hid hP0
    clear hb3 MS hlt3 hRow hst0 hag0 HT3 HT2 HO hP0
    go_upto_region 5 with fail
    rw [← hS, ← hW3]
    clear hS hW3
    go_loopw [7] (fun _ wr => ∃ (f a : Nat) (ys : List As) (NA : Option Addr) (nc : Nat) (ps : List PN) (BA : Option Addr) (bc : Nat), prsP ts (4 * ts.length + 4) f a (ps.map Prod.snd) ys = some R ∧ PSt wr S S A c a ts NA nc ps (.slice BA ys.length bc) ∧ AsgS wr S S NA ps BA bc ys ∧ Below S W3 wr ∧ ps.length ≤ 60 ∧ a < ts.length ∧ ys.length ≤ a) (fun _ wr => leftQ S ts.length wr)
    case atStart => exact ⟨ts.length + 1, 0, [], none, 0, [], none, 0, HPS.out, HST0.out, HAG0.out, Below.refl _ _, by simp, HTS.out.ok.ends.1, by simp⟩
    case round =>
      obtain ⟨f, a, ys, NA, nc, ps, BA, bc, hpc, hst, hag, hb, hn, ha, hy⟩ := hrel
      clear HST0 HAG0
      cases f with
      | zero => simp [prsP] at hpc
      | succ f =>
      have hlW := leftQ_st hst
      have HLW := Lib.hid hlW
      have hRow := hst.toks.more hst.baseLe
      obtain ⟨b, o, rfl, hbl, hc⟩ := hRow.at ha
      obtain ⟨t0, t1, t2, t3⟩ := tkg_at hc
      have htk := tkA_at ha
      obtain ⟨v, hv⟩ : ∃ v, v = ts[a] := ⟨_, rfl⟩
      rw [← hv] at t0 t1 t2 t3 htk
      obtain ⟨v0, v1, v2, v3⟩ := v
      dsimp only at t0 t1 t2 t3
      have HST := Lib.hid hst
      have HAG := Lib.hid hag
      have HB := Lib.hid hb
      have HPC := Lib.hid hpc
      have HTK := Lib.hid htk
      have HTC := Lib.hid (And.intro t0 (And.intro t1 (And.intro t2 t3)))
      have hlt' : (a : Int) < (ts.length : Int) := by omega
      have hge' : (0 : Int) ≤ (a : Int) := by omega
      have k0 := hst.box.c 0
      have k1 := hst.box.c 1
      have k4 := hst.box.c 4
      clear hRow hc hv htk t1 t2 t3 hlW hst hag hb hpc
      by_cases e0 : v0 = 0
      · have b0 : (v0 != 0) = false := by simp [e0]
        have hRv : R = .done (ps.map Prod.snd) ys := by
          have := HPC.out
          unfold prsP at this
          rw [if_pos (by rw [HTK.out]; exact e0)] at this
          exact (Option.some.inj this).symm
        have HRV := Lib.hid hRv
        clear hRv e0 HPC
        go_wp2_with fail
        go_quiet (fail)
        have hbq : Below wr.heap.size wr (wr.drewN nq) := below_drewN (Below.refl _ _) nq
        have hst4 := HST.out.later hbq
        have hag4 := HAG.out.later hbq
        have hb4 := HB.out.trans (hbq.mono HST.out.baseLe)
        have hH4 := HH3.out.under' hb4 (by have := HP0.out; omega) (fun p hp => by have := HP0.out; simp only [List.mem_cons, List.not_mem_nil, or_false] at hp; rcases hp with rfl; simp only; omega)
        have hpg : ProgG (QO S) (wr.drewN nq) S NA nc BA bc ps ys := ⟨hst4.nodes, hag4.own, hag4.apN, fun i hi => hag4.apA _ (List.getElem_mem hi)⟩
        clear k0 k1 k4 t0
        have k2 := hst4.box.c 2
        have k3 := hst4.box.c 3
        have k4 := hst4.box.c 4
        have c0 := (hH4.box 0).c 0
        have c1 := (hH4.box 0).c 1
        have f0 := (hH4.box 0).f 0
        have f1 := (hH4.box 0).f 1
        have M0 := ((hH4.box 0).put 0 (.slice NA ps.length nc)).put 1 (.slice BA ys.length bc)
        have hBF := (hH4.below.setCell (p := ⟨w.heap.size, 0, none⟩) (Nat.le_refl _) (.slice NA ps.length nc)).setCell (p := ⟨w.heap.size, 1, none⟩) (Nat.le_refl _) (.slice BA ys.length bc)
        have ht := ((Turn.refl (fun k => k = w.heap.size) (wr.drewN nq)).setCell (g := w.heap.size) (i := 0) rfl (.slice NA ps.length nc)).setCell (g := w.heap.size) (i := 1) rfl (.slice BA ys.length bc)
        have hpg5 := progG_keep hpg (fun b hb1 hb2 => ht.block hb2 (fun e => by have := HP0.out; omega))
        have hys : ys.length ≤ 1048576 := by have := HLEN.out; omega
        have HZ := Lib.hid (And.intro M0 (And.intro hBF hpg5))
        clear M0 hBF hpg5 hpg ht hst4 hag4 hbq hb4 hH4
        go_wp2_with fail
        obtain ⟨M0, hBF, hpg5⟩ := HZ.out
        have z0 := M0.c 0
        have z1 := M0.c 1
        exact bodyPost_ret (v := .tuple #[pgv NA BA ps.length nc ys.length bc, .int .i64 (-1)]) (by simp [results, Try.results22, go_sem, z0, z1]) rfl (by
          unfold ParsePost
          rw [HPV.out, HRV.out]
          exact ⟨hBF, S, NA, nc, ps, BA, bc, by have := HP0.out; omega, rfl, rfl, hpg5, hn, hys⟩)
      · have b0 : (v0 != 0) = true := by simp [e0]
        have hpc := HPC.out
        rw [prs_step (by rw [HTK.out]; exact e0)] at hpc
        have hR1 : ∃ R1, asgP ts (4 * ts.length + 4) a (ps.map Prod.snd) = some R1 := by
          cases e : asgP ts (4 * ts.length + 4) a (ps.map Prod.snd) with
          | none => rw [e] at hpc; cases hpc
          | some R1 => exact ⟨R1, rfl⟩
        obtain ⟨R1, hR1⟩ := hR1
        rw [hR1] at hpc
        have hgd : ∀ r a' ns', R1 = .ok r a' ns' → a' < ts.length ∧ a < a' := fun r a' ns' e => asg_good HTS.out.ok.ends ha (by rw [← e]; exact hR1)
        unfold asgP at hR1
        rw [HTK.out] at hR1 hpc
        dsimp only at hR1 hpc
        have HPC2 := Lib.hid hpc
        have HR1 := Lib.hid hR1
        have HGD := Lib.hid hgd
        have HE0 := Lib.hid e0
        clear hpc hR1 hgd HPC e0
        go_wp2_with fail
        go_quiet (fail)
        have hbq : Below wr.heap.size wr (wr.drewN nq) := below_drewN (Below.refl _ _) nq
        have hst4 := HST.out.later hbq
        have hag4 := HAG.out.later hbq
        have hb4 := HB.out.trans (hbq.mono HST.out.baseLe)
        obtain ⟨t0, t1, t2, t3⟩ : (wr.drewN nq).cell? ⟨b, o + a * 4, none⟩ = some (.int .i64 v0) ∧ (wr.drewN nq).cell? ⟨b, o + a * 4 + 1, none⟩ = some (.string v1) ∧ (wr.drewN nq).cell? ⟨b, o + a * 4 + 2, none⟩ = some (.int .i64 v2) ∧ (wr.drewN nq).cell? ⟨b, o + a * 4 + 3, none⟩ = some (.int .i64 v3) := HTC.out
        have hlqW : leftQ S ts.length (wr.drewN nq) = ts.length + 1 - a := leftQ_st hst4
        obtain ⟨wq, hwq⟩ : ∃ wq, wq = wr.drewN nq := ⟨_, rfl⟩
        have hwz : wr.heap.size = wq.heap.size := by rw [hwq]; rfl
        rw [← hwq] at hst4 hag4 hb4 t0 t1 t2 t3 hlqW ⊢
        rw [hwz] at hbl
        clear hwq hwz k0 k1 k4 hbq HST HAG HTC HB
        have HT : Held wq wq [(S, [.slice (some ⟨b, o, none⟩) ts.length c, .int .i64 a, .slice NA ps.length nc, .slice BA ys.length bc, .int .i64 (-1)])] := (Held.nil wq).cons hst4.box
        have HC : ∀ W', Held wq W' [(S, [.slice (some ⟨b, o, none⟩) ts.length c, .int .i64 a, .slice NA ps.length nc, .slice BA ys.length bc, .int .i64 (-1)])] → W'.cell? ⟨S, 0, none⟩ = some (.slice (some ⟨b, o, none⟩) ts.length c) ∧ W'.cell? ⟨S, 1, none⟩ = some (.int .i64 a) ∧ W'.cell? ⟨b, o + a * 4, none⟩ = some (.int .i64 v0) ∧ W'.cell? ⟨b, o + a * 4 + 1, none⟩ = some (.string v1) ∧ W'.cell? ⟨b, o + a * 4 + 2, none⟩ = some (.int .i64 v2) ∧ W'.cell? ⟨b, o + a * 4 + 3, none⟩ = some (.int .i64 v3) := fun W' h =>
          ⟨(h.box 0).c 0, (h.box 0).c 1, (h.below.cell (p := ⟨b, o + a * 4, none⟩) hbl).trans t0, (h.below.cell (p := ⟨b, o + a * 4 + 1, none⟩) hbl).trans t1, (h.below.cell (p := ⟨b, o + a * 4 + 2, none⟩) hbl).trans t2, (h.below.cell (p := ⟨b, o + a * 4 + 3, none⟩) hbl).trans t3⟩
        have HS4 := Lib.hid hst4
        have HA4 := Lib.hid hag4
        have HB4 := Lib.hid hb4
        clear hst4 hag4 hb4 t0 t1 t2 t3
        go_upto_region 6 with fail
        go_cut [7] (fun s wx => ∃ g : Nat, s = .pointer (some ⟨g, 0, none⟩) ∧ wq.heap.size ≤ g ∧ Mbox wx g [.int .i64 v0, .string v1, .int .i64 v2, .int .i64 v3] ∧ Held wq wx [(S, [.slice (some ⟨b, o, none⟩) ts.length c, .int .i64 a, .slice NA ps.length nc, .slice BA ys.length bc, .int .i64 (-1)])])
        case first =>
          have hsz := HT.size
          go_region_held3 (fun W' => W'.cell? ⟨S, 0, none⟩ = some (.slice (some ⟨b, o, none⟩) ts.length c) ∧ W'.cell? ⟨S, 1, none⟩ = some (.int .i64 a) ∧ W'.cell? ⟨b, o + a * 4, none⟩ = some (.int .i64 v0) ∧ W'.cell? ⟨b, o + a * 4 + 1, none⟩ = some (.string v1) ∧ W'.cell? ⟨b, o + a * 4 + 2, none⟩ = some (.int .i64 v2) ∧ W'.cell? ⟨b, o + a * 4 + 3, none⟩ = some (.int .i64 v3))
            (first | (with_reducible exact HC _ HT) | (with_reducible exact HC _ HT.drew) | (with_reducible exact HC _ (HT.alloc _)) | (with_reducible exact HC _ (HT.alloc _).drew) | (with_reducible exact HC _ (HT.far4 (by omega) (by simp <;> omega) _ _ _ _)))
            (fail)
          all_goals (go_wp2_with fail; go_meet)
          all_goals (first | with_reducible exact ⟨_, rfl, Nat.le_refl _, Mbox.new4 _ _ _ _ _ _, HT.alloc _⟩ | with_reducible exact ⟨_, rfl, Nat.le_refl _, (Mbox.new4 _ _ _ _ _ _).drew, (HT.alloc _).drew⟩ | with_reducible exact ⟨_, rfl, Nat.le_refl _, Mbox.new4 _ _ _ _ _ _, HT.drew.alloc _⟩ | with_reducible exact ⟨_, rfl, Nat.le_refl _, (Mbox.new4 _ _ _ _ _ _).drew, (HT.drew.alloc _).drew⟩)
        case rest =>
          clear HC
          obtain ⟨g, rfl, hgq, HV, HTx⟩ := hcut
          have hb0 := HTx.below
          have hstc := HS4.out.later hb0
          have hagc := HA4.out.later hb0
          have hbc := HB4.out.trans (hb0.mono HS4.out.baseLe)
          have hgS : S ≠ g := by have := HS4.out.lt; omega
          have hgA : ∀ x, (blk NA = some x ∨ blk BA = some x) → x ≠ g := fun x hx => by
            rcases hx with hx | hx
            · have := (HS4.out.nodes.1.lt x (of_blk hx)).2
              omega
            · have := (HA4.out.own.lt x (of_blk hx)).2
              omega
          have HGS := Lib.hid hgS
          have HGA := Lib.hid hgA
          have HSC := Lib.hid hstc
          have HAC := Lib.hid hagc
          have HBC := Lib.hid hbc
          have HVC := Lib.hid HV
          have m0 := HV.c 0
          clear HT HTx hb0 hstc hagc hbc hgS hgA HS4 HA4 HB4 HV hgq
          by_cases k2 : v0 = 2
          · have b2 : (v0 != 2) = false := by simp [k2]
            have hr1 := HR1.out
            rw [if_neg (by simp [k2])] at hr1
            have h1 := kind_next HTS.out.ok.ends ha (by rw [HTK.out]; exact HE0.out)
            have hstc := HSC.out
            have c1 := hstc.box.c 1
            have f1 := hstc.box.f 1
            have hnx := hstc.next (a' := a + 1)
            have e1 : ((a + 1 : Nat) : Int) = (a : Int) + 1 := by omega
            rw [e1] at hnx
            have hlb : (a : Int) < 1099511627776 := by have := HLEN.out; omega
            have ht9 : Turn (fun k => k = S) wc (wc.setCell ⟨S, 1, none⟩ (.int .i64 ((a : Int) + 1))) := (Turn.refl (fun k => k = S) wc).setCell (g := S) (i := 1) rfl _
            have hag9 := HAC.out.step (ht9.mono fun k e => .inl e) (newN_refl wc NA) (FrA.refl wc ps)
            have hb9 := HBC.out.trans (hstc.under (NA := NA) (ht9.mono fun k e => .inl e))
            have hV9 := HVC.out.far (g := S) (i := 1) (fun e => HGS.out e.symm) (.int .i64 ((a : Int) + 1))
            have HEQ := Lib.hid (fun h => sExpect_yes S c (a + 1) _ ts _ _ ⟨#[61]⟩ _ hnx.box hnx.lt (hnx.toks.more hnx.low) h1 HTS.out.ok.len h)
            have HEN := Lib.hid (fun h => sExpect_no S c (a + 1) _ ts _ _ ⟨#[61]⟩ _ hnx.box hnx.lt (hnx.toks.more hnx.low) h1 h)
            have HS9 := Lib.hid hnx
            have HA9 := Lib.hid hag9
            have HB9 := Lib.hid hb9
            have HV9 := Lib.hid hV9
            have HP1 := Lib.hid hr1
            clear hr1 k2 HR1 hstc hnx ht9 hag9 hb9 hV9 HSC HAC HBC HVC e1
            go_upto_region 10 with fail
            clear c1 f1 m0
            by_cases s1 : symA ts (a + 1) = ⟨#[61]⟩
            · have hr1 := HP1.out
              rw [if_neg (by simp [s1])] at hr1
              have h2 := sym_next HTS.out.ok.ends h1 s1 (by decide)
              have HEX := Lib.hid (HEQ.out s1)
              have hR2 : ∃ R2, par ts (4 * ts.length + 4) (.bin true (a + 2) 1 (ps.map Prod.snd)) = some R2 := by
                cases e : par ts (4 * ts.length + 4) (.bin true (a + 2) 1 (ps.map Prod.snd)) with
                | none => rw [e] at hr1; cases hr1
                | some R2 => exact ⟨R2, rfl⟩
              obtain ⟨R2, hR2⟩ := hR2
              rw [hR2] at hr1
              have HGD2 := Lib.hid (par_good HTS.out.ok.ends (4 * ts.length + 4) (.bin true (a + 2) 1 (ps.map Prod.snd)) _ h2 hR2)
              have HPP := Lib.hid hr1
              have HR2 := Lib.hid hR2
              clear hr1 s1 HP1 hR2 HEQ HEN
              go_wp2_with fail
              refine HEX.out.mono ?_
              rintro e w3 ⟨rfl, ht3, hm3⟩
              have hst3 := HS9.out.turned (a' := a + 2) ht3 hm3
              have hag3 := HA9.out.step (ht3.mono fun k e => .inl e) (newN_refl _ NA) (FrA.refl _ ps)
              have hb3 := HB9.out.trans (HS9.out.under (NA := NA) (ht3.mono fun k e => .inl e))
              have hV3 : Mbox w3 g [.int .i64 v0, .string v1, .int .i64 v2, .int .i64 v3] := HV9.out.keep fun hl => ht3.block hl (fun e => HGS.out e.symm)
              have HCL := Lib.hid (sExpr_any (parts_any (4 * ts.length + 4) (4 * ts.length + 4) (Nat.le_refl _)).2 w3 S S c (a + 2) 1 nc (some ⟨b, o, none⟩) NA ts ps (.slice BA ys.length bc) R2 HTS.out.ok hst3 hn h2 (by omega) HR2.out)
              have HS3 := Lib.hid hst3
              have HA3 := Lib.hid hag3
              have HB3 := Lib.hid hb3
              have HV3 := Lib.hid hV3
              clear ht3 hm3 hst3 hag3 hb3 hV3 HEX HS9 HA9 HB9 HV9
              go_upto_region 11 with fail
              go_wp2_with fail
              refine HCL.out.mono ?_
              rintro e w4 hpp
              clear HCL
              cases R2 with
              | bad o1 =>
                obtain ⟨⟨u1, rfl⟩, hz0, hz1, hz2, x1, x2, hz3⟩ := hpp
                have hp2 := HPP.out
                injection hp2 with hp2
                have hp3 := HPC2.out
                rw [← hp2] at hp3
                have HRV : Hid (R = .bad o1) := Lib.hid (Option.some.inj hp3).symm
                have HX := Lib.hid hz3
                have HY := Lib.hid (HH3.out.under' (HB3.out.trans hz1) (by have := HP0.out; omega) (fun p hp => by have := HP0.out; simp only [List.mem_cons, List.not_mem_nil, or_false] at hp; rcases hp with rfl; simp only; omega))
                have HO := Lib.hid hz0
                clear hz1 hz2 hz3 hz0 hp2 hp3 HPC2 HPP HS3 HA3 HB3 HV3
                obtain ⟨hkR, hkS⟩ := And.intro HY.out HX.out
                have k4 := hkS.c 4
                have bo := HO.out
                go_upto_region 15 with fail
                clear k4 bo
                have f0 := (hkR.box 0).f 0
                have f1 := (hkR.box 0).f 1
                have c0 := (hkR.box 0).c 0
                have c1 := (hkR.box 0).c 1
                have hSR : S ≠ w.heap.size := by have := HP0.out; omega
                have K0 := hkS.c 4
                have K1 := hkS.drew.c 4
                have K2 : ∀ u v, ((w4.setCell ⟨w.heap.size, 0, none⟩ u).setCell ⟨w.heap.size, 1, none⟩ v).cell? ⟨S, 4, none⟩ = some (.int .i64 o1) := fun u v => ((hkS.far (g := w.heap.size) (i := 0) hSR u).far (g := w.heap.size) (i := 1) hSR v).c 4
                have K3 : ∀ u v, ((w4.setCell ⟨w.heap.size, 0, none⟩ u).setCell ⟨w.heap.size, 1, none⟩ v).drew.cell? ⟨S, 4, none⟩ = some (.int .i64 o1) := K2
                have K4 : ∀ u v, ((w4.drew.setCell ⟨w.heap.size, 0, none⟩ u).setCell ⟨w.heap.size, 1, none⟩ v).cell? ⟨S, 4, none⟩ = some (.int .i64 o1) := K2
                have M0 := ((hkR.box 0).put 0 (.slice none 0 0)).put 1 (.slice none 0 0)
                have z0 := M0.c 0
                have z1 := M0.c 1
                have hBF := (hkR.below.setCell (p := ⟨w.heap.size, 0, none⟩) (Nat.le_refl _) (.slice none 0 0)).setCell (p := ⟨w.heap.size, 1, none⟩) (Nat.le_refl _) (.slice none 0 0)
                have HDR := Lib.hid (show ∀ (x : World) (p : Addr), x.drew.cell? p = x.cell? p from fun _ _ => rfl)
                have HZ := Lib.hid (And.intro z0 (And.intro z1 hBF))
                clear M0 z0 z1 hBF hkR hkS
                go_region_held3 (fun W' => W'.cell? ⟨S, 4, none⟩ = some (.int .i64 o1))
                  (first | (with_reducible exact K0) | (with_reducible exact K1) | (with_reducible exact K2 _ _) | (with_reducible exact K3 _ _) | (with_reducible exact K4 _ _))
                  (fail)
                all_goals clear K0 K1 K2 K3 K4
                all_goals go_wp2_with fail
                all_goals
                  obtain ⟨z0, z1, hBF⟩ := HZ.out
                  first
                  | exact bodyPost_ret (v := .tuple #[pgv none none 0 0 0 0, .int .i64 o1]) (by simp [results, Try.results22, go_sem, HDR.out, z0, z1]) rfl (by unfold ParsePost; rw [HPV.out, HRV.out]; exact ⟨rfl, hBF⟩)
                  | exact bodyPost_ret (v := .tuple #[pgv none none 0 0 0 0, .int .i64 o1]) (by simp [results, Try.results22, go_sem, HDR.out, z0, z1]) rfl (by unfold ParsePost; rw [HPV.out, HRV.out]; exact ⟨rfl, hBF.drew⟩)
              | ok r1 a1 ns1 =>
                obtain ⟨rfl, NA1, nc1, ps1, hps1, hst4, ht4, hn4, hl4, hf4⟩ := hpp
                subst hps1
                have hg := HGD2.out _ _ _ rfl
                have hag4 := HA3.out.step ht4 hn4 hf4
                have hb4 := HB3.out.trans (HS3.out.under ht4)
                have hV4 : Mbox w4 g [.int .i64 v0, .string v1, .int .i64 v2, .int .i64 v3] := HV3.out.keep fun hl => ht4.block hl (fun e => by
                  rcases e with e | e
                  · exact HGS.out e.symm
                  · exact HGA.out g (.inl e) rfl)
                have k4 := hst4.box.c 4
                have hp2 := HPP.out
                simp only at hp2
                have HS4 := Lib.hid hst4
                have HA4 := Lib.hid hag4
                have HB4 := Lib.hid hb4
                have HV4 := Lib.hid hV4
                by_cases s3 : symA ts a1 = ⟨#[59]⟩
                · rw [if_pos s3] at hp2
                  injection hp2 with hp2
                  have HEX := Lib.hid (sExpect_yes S c a1 _ ts _ _ ⟨#[59]⟩ w4 hst4.box hst4.lt (hst4.toks.more hst4.low) hg.1 HTS.out.ok.len s3)
                  have HP2 := Lib.hid hp2
                  clear hst4 ht4 hn4 hf4 hag4 hb4 hV4 hp2 s3 HPP HS3 HA3 HB3 HV3
                  go_wp2_with fail
                  refine HEX.out.mono ?_
                  rintro e w5 ⟨rfl, ht5, hm5⟩
                  have hst5 := HS4.out.turned (a' := a1 + 1) ht5 hm5
                  have hag5 := HA4.out.step (ht5.mono fun k e => .inl e) (newN_refl _ NA1) (FrA.refl _ ps1)
                  have hb5 := HB4.out.trans (HS4.out.under (NA := NA1) (ht5.mono fun k e => .inl e))
                  have hV5 : Mbox w5 g [.int .i64 v0, .string v1, .int .i64 v2, .int .i64 v3] := HV4.out.keep fun hl => ht5.block hl (fun e => HGS.out e.symm)
                  have hS5 := hst5.lt
                  have hbs5 := hst5.baseLe
                  have hM5 := hst5.box
                  have hO5 := hag5.own
                  have HS5 := Lib.hid hst5
                  have HA5 := Lib.hid hag5
                  have HB5 := Lib.hid hb5
                  have hyb : ys.length ≤ 2001 := by have := HLEN.out; omega
                  clear ht5 hm5 hst5 hag5 hb5 HEX HS4 HA4 HB4 HV4 k4
                  go_upto_region 13 with fail
                  have k3 := hM5.c 3
                  have k3' := hM5.drew.c 3
                  have k3o : ∀ o, (w5.alloc o).cell? ⟨S, 3, none⟩ = some (.slice BA ys.length bc) := fun o => (hM5.alloc o).c 3
                  have e1 := hV5.c 1
                  have e1' := hV5.drew.c 1
                  have e1o : ∀ o, (w5.alloc o).cell? ⟨g, 1, none⟩ = some (.string v1) := fun o => (hV5.alloc o).c 1
                  go_region_law (refine step_append_lies _ (by rfl) _ _ _ (by rfl) S 33 i9 _ 2 24 Try.underlying24 hi9 hz90 hz91 hz92 rfl (by omega) (.slice BA ys.length bc) ys.length _ (by rfl) (by first | with_reducible exact hO5.alloc _ | with_reducible exact (hO5.alloc _).drew) ⟨_, 0, none⟩ 1 1 [_, _] (by rfl) (by rfl) (World.news_of_block (cs := #[_, _]) (t := 33) (fr := (0, 0)) (heap_alloc_new _ _)) (by simp [Value.oneCell']) (by omega) (by unfold maxLen; omega) (by omega) (by simp; omega) _ rfl ?_; intro gg cap w6 hown6 hgrow hat hlt6; have hM6 : Mbox w6 S [.slice (some ⟨b, o, none⟩) ts.length c, .int .i64 ((a1 + 1 : Nat) : Int), .slice NA1 ps1.length nc1, .slice BA ys.length bc, .int .i64 (-1)] := (hM5.alloc _).keep (fun hl => hgrow.block _ hl (fun c => HA5.out.apS (blk_of c.symm))); have k6 := hM6.c 3; have f6 := hM6.f 3)
                  all_goals
                    have hnew : blk (some (⟨gg, 0, none⟩ : Addr)) = blk BA ∨ ∃ k, blk (some (⟨gg, 0, none⟩ : Addr)) = some k ∧ w5.heap.size ≤ k := by
                      rcases hat with h | h
                      · exact .inl (blk_of h).symm
                      · refine .inr ⟨gg, rfl, ?_⟩
                        simp at h
                        omega
                    have hT6 : Turn (fun k => blk BA = some k) w5 w6 := Turn.trans (Turn.of_later (by go_grown)) (turn_argA hgrow)
                    have hstep := asg_step HS5.out HA5.out hT6 (v := v1) (r := (r1 : Int)) (BA' := some ⟨gg, 0, none⟩) (bc' := cap) (by first | exact hown6 | simpa [asg] using hown6) hnew
                    have HREL : Hid (∃ (f2 a2 : Nat) (ys2 : List As) (NA2 : Option Addr) (nc2 : Nat) (ps2 : List PN) (BA2 : Option Addr) (bc2 : Nat), prsP ts (4 * ts.length + 4) f2 a2 (ps2.map Prod.snd) ys2 = some R ∧ PSt (w6.setCell ⟨S, 3, none⟩ (.slice (some ⟨gg, 0, none⟩) (ys.length + 1) cap)) S S (some ⟨b, o, none⟩) c a2 ts NA2 nc2 ps2 (.slice BA2 ys2.length bc2) ∧ AsgS (w6.setCell ⟨S, 3, none⟩ (.slice (some ⟨gg, 0, none⟩) (ys.length + 1) cap)) S S NA2 ps2 BA2 bc2 ys2 ∧ Below S W3 (w6.setCell ⟨S, 3, none⟩ (.slice (some ⟨gg, 0, none⟩) (ys.length + 1) cap)) ∧ ps2.length ≤ 60 ∧ a2 < ts.length ∧ ys2.length ≤ a2) := Lib.hid (by
                      have hpc5 := HPC2.out
                      rw [← HP2.out] at hpc5
                      simp only at hpc5
                      have hgd := HGD.out _ _ _ HP2.out.symm
                      exact ⟨f, a1 + 1, _, NA1, nc1, ps1, some ⟨gg, 0, none⟩, cap, hpc5, hstep.1, hstep.2.1, HB5.out.trans hstep.2.2, hl4, hgd.1, by simp; omega⟩)
                    have HMS : Hid (leftQ S ts.length (w6.setCell ⟨S, 3, none⟩ (.slice (some ⟨gg, 0, none⟩) (ys.length + 1) cap)) < leftQ S ts.length wr) := Lib.hid (by
                      have hgd := HGD.out _ _ _ HP2.out.symm
                      rw [leftQ_st hstep.1, HLW.out]
                      omega)
                    clear hnew hT6 hown6 hgrow hat hlt6 hM6 hstep k3 k3' k3o e1 e1' e1o hV5 hM5 hO5
                    go_wp2_with fail
                    go_roundw
                    case rel => exact HREL.out
                    case measure => exact HMS.out
                · rw [if_neg s3] at hp2
                  injection hp2 with hp2
                  have HEX := Lib.hid (sExpect_no S c a1 _ ts _ _ ⟨#[59]⟩ w4 hst4.box hst4.lt (hst4.toks.more hst4.low) hg.1 s3)
                  have hp3 := HPC2.out
                  rw [← hp2] at hp3
                  have HRV : Hid (R = .bad (offA ts a1)) := Lib.hid (Option.some.inj hp3).symm
                  have HO := Lib.hid (HTS.out.ok.off a1)
                  clear hst4 ht4 hn4 hf4 hag4 hb4 hV4 hp2 hp3 s3 HPP HPC2 HS3 HA3 HB3 HV3
                  go_wp2_with fail
                  refine HEX.out.mono ?_
                  rintro e w5 ⟨rfl, ht5, hm5⟩
                  have HX := Lib.hid hm5
                  have HY := Lib.hid (HH3.out.under' (HB4.out.trans (HS4.out.under (NA := NA1) (ht5.mono fun k e => .inl e))) (by have := HP0.out; omega) (fun p hp => by have := HP0.out; simp only [List.mem_cons, List.not_mem_nil, or_false] at hp; rcases hp with rfl; simp only; omega))
                  clear ht5 hm5 HEX HS4 HA4 HB4 HV4 k4
                  obtain ⟨hkR, hkS⟩ := And.intro HY.out HX.out
                  have k4 := hkS.c 4
                  have bo := HO.out
                  go_upto_region 15 with fail
                  clear k4 bo
                  have f0 := (hkR.box 0).f 0
                  have f1 := (hkR.box 0).f 1
                  have c0 := (hkR.box 0).c 0
                  have c1 := (hkR.box 0).c 1
                  have hSR : S ≠ w.heap.size := by have := HP0.out; omega
                  have K0 := hkS.c 4
                  have K1 := hkS.drew.c 4
                  have K2 : ∀ u v, ((w5.setCell ⟨w.heap.size, 0, none⟩ u).setCell ⟨w.heap.size, 1, none⟩ v).cell? ⟨S, 4, none⟩ = some (.int .i64 (offA ts a1)) := fun u v => ((hkS.far (g := w.heap.size) (i := 0) hSR u).far (g := w.heap.size) (i := 1) hSR v).c 4
                  have K3 : ∀ u v, ((w5.setCell ⟨w.heap.size, 0, none⟩ u).setCell ⟨w.heap.size, 1, none⟩ v).drew.cell? ⟨S, 4, none⟩ = some (.int .i64 (offA ts a1)) := K2
                  have K4 : ∀ u v, ((w5.drew.setCell ⟨w.heap.size, 0, none⟩ u).setCell ⟨w.heap.size, 1, none⟩ v).cell? ⟨S, 4, none⟩ = some (.int .i64 (offA ts a1)) := K2
                  have M0 := ((hkR.box 0).put 0 (.slice none 0 0)).put 1 (.slice none 0 0)
                  have z0 := M0.c 0
                  have z1 := M0.c 1
                  have hBF := (hkR.below.setCell (p := ⟨w.heap.size, 0, none⟩) (Nat.le_refl _) (.slice none 0 0)).setCell (p := ⟨w.heap.size, 1, none⟩) (Nat.le_refl _) (.slice none 0 0)
                  have HDR := Lib.hid (show ∀ (x : World) (p : Addr), x.drew.cell? p = x.cell? p from fun _ _ => rfl)
                  have HZ := Lib.hid (And.intro z0 (And.intro z1 hBF))
                  clear M0 z0 z1 hBF hkR hkS
                  go_region_held3 (fun W' => W'.cell? ⟨S, 4, none⟩ = some (.int .i64 (offA ts a1)))
                    (first | (with_reducible exact K0) | (with_reducible exact K1) | (with_reducible exact K2 _ _) | (with_reducible exact K3 _ _) | (with_reducible exact K4 _ _))
                    (fail)
                  all_goals clear K0 K1 K2 K3 K4
                  all_goals go_wp2_with fail
                  all_goals
                    obtain ⟨z0, z1, hBF⟩ := HZ.out
                    first
                    | exact bodyPost_ret (v := .tuple #[pgv none none 0 0 0 0, .int .i64 (offA ts a1)]) (by simp [results, Try.results22, go_sem, HDR.out, z0, z1]) rfl (by unfold ParsePost; rw [HPV.out, HRV.out]; exact ⟨rfl, hBF⟩)
                    | exact bodyPost_ret (v := .tuple #[pgv none none 0 0 0 0, .int .i64 (offA ts a1)]) (by simp [results, Try.results22, go_sem, HDR.out, z0, z1]) rfl (by unfold ParsePost; rw [HPV.out, HRV.out]; exact ⟨rfl, hBF.drew⟩)
            · have hr1 := HP1.out
              rw [if_pos (by simpa using s1)] at hr1
              injection hr1 with hr1
              have hp3 := HPC2.out
              rw [← hr1] at hp3
              have HRV : Hid (R = .bad (offA ts (a + 1))) := Lib.hid (Option.some.inj hp3).symm
              have HO := Lib.hid (HTS.out.ok.off (a + 1))
              have HEX := Lib.hid (HEN.out s1)
              clear hr1 hp3 s1 HP1 HPC2 HEQ HEN
              go_wp2_with fail
              refine HEX.out.mono ?_
              rintro e w5 ⟨rfl, ht5, hm5⟩
              have HX := Lib.hid hm5
              have HY := Lib.hid (HH3.out.under' (HB9.out.trans (HS9.out.under (NA := NA) (ht5.mono fun k e => .inl e))) (by have := HP0.out; omega) (fun p hp => by have := HP0.out; simp only [List.mem_cons, List.not_mem_nil, or_false] at hp; rcases hp with rfl; simp only; omega))
              clear ht5 hm5 HEX HS9 HA9 HB9 HV9
              obtain ⟨hkR, hkS⟩ := And.intro HY.out HX.out
              have k4 := hkS.c 4
              have bo := HO.out
              go_upto_region 15 with fail
              clear k4 bo
              have f0 := (hkR.box 0).f 0
              have f1 := (hkR.box 0).f 1
              have c0 := (hkR.box 0).c 0
              have c1 := (hkR.box 0).c 1
              have hSR : S ≠ w.heap.size := by have := HP0.out; omega
              have K0 := hkS.c 4
              have K1 := hkS.drew.c 4
              have K2 : ∀ u v, ((w5.setCell ⟨w.heap.size, 0, none⟩ u).setCell ⟨w.heap.size, 1, none⟩ v).cell? ⟨S, 4, none⟩ = some (.int .i64 (offA ts (a + 1))) := fun u v => ((hkS.far (g := w.heap.size) (i := 0) hSR u).far (g := w.heap.size) (i := 1) hSR v).c 4
              have K3 : ∀ u v, ((w5.setCell ⟨w.heap.size, 0, none⟩ u).setCell ⟨w.heap.size, 1, none⟩ v).drew.cell? ⟨S, 4, none⟩ = some (.int .i64 (offA ts (a + 1))) := K2
              have K4 : ∀ u v, ((w5.drew.setCell ⟨w.heap.size, 0, none⟩ u).setCell ⟨w.heap.size, 1, none⟩ v).cell? ⟨S, 4, none⟩ = some (.int .i64 (offA ts (a + 1))) := K2
              have M0 := ((hkR.box 0).put 0 (.slice none 0 0)).put 1 (.slice none 0 0)
              have z0 := M0.c 0
              have z1 := M0.c 1
              have hBF := (hkR.below.setCell (p := ⟨w.heap.size, 0, none⟩) (Nat.le_refl _) (.slice none 0 0)).setCell (p := ⟨w.heap.size, 1, none⟩) (Nat.le_refl _) (.slice none 0 0)
              have HDR := Lib.hid (show ∀ (x : World) (p : Addr), x.drew.cell? p = x.cell? p from fun _ _ => rfl)
              have HZ := Lib.hid (And.intro z0 (And.intro z1 hBF))
              clear M0 z0 z1 hBF hkR hkS
              go_region_held3 (fun W' => W'.cell? ⟨S, 4, none⟩ = some (.int .i64 (offA ts (a + 1))))
                (first | (with_reducible exact K0) | (with_reducible exact K1) | (with_reducible exact K2 _ _) | (with_reducible exact K3 _ _) | (with_reducible exact K4 _ _))
                (fail)
              all_goals clear K0 K1 K2 K3 K4
              all_goals go_wp2_with fail
              all_goals
                obtain ⟨z0, z1, hBF⟩ := HZ.out
                first
                | exact bodyPost_ret (v := .tuple #[pgv none none 0 0 0 0, .int .i64 (offA ts (a + 1))]) (by simp [results, Try.results22, go_sem, HDR.out, z0, z1]) rfl (by unfold ParsePost; rw [HPV.out, HRV.out]; exact ⟨rfl, hBF⟩)
                | exact bodyPost_ret (v := .tuple #[pgv none none 0 0 0 0, .int .i64 (offA ts (a + 1))]) (by simp [results, Try.results22, go_sem, HDR.out, z0, z1]) rfl (by unfold ParsePost; rw [HPV.out, HRV.out]; exact ⟨rfl, hBF.drew⟩)
          · have b2 : (v0 != 2) = true := by simp [k2]
            have hr1 := HR1.out
            rw [if_pos (by simpa using k2)] at hr1
            injection hr1 with hr1
            have hp3 := HPC2.out
            rw [← hr1] at hp3
            have HRV : Hid (R = .bad (offA ts a)) := Lib.hid (Option.some.inj hp3).symm
            have HO := Lib.hid (HTS.out.ok.off a)
            have hstc := HSC.out
            have HFL := Lib.hid (sFail_any S c a _ ts _ _ _ hstc.box (hstc.toks.more hstc.low) ha)
            clear hr1 hp3 hstc HPC2 HR1 k2
            go_wp2_with fail
            refine HFL.out.mono ?_
            rintro e w5 ⟨rfl, ht5, hm5⟩
            have HX := Lib.hid hm5
            have HY := Lib.hid (HH3.out.under' (HBC.out.trans (HSC.out.under (NA := NA) (ht5.mono fun k e => .inl e))) (by have := HP0.out; omega) (fun p hp => by have := HP0.out; simp only [List.mem_cons, List.not_mem_nil, or_false] at hp; rcases hp with rfl; simp only; omega))
            clear ht5 hm5 HFL HSC HAC HBC HVC m0
            obtain ⟨hkR, hkS⟩ := And.intro HY.out HX.out
            have k4 := hkS.c 4
            have bo := HO.out
            go_upto_region 15 with fail
            clear k4 bo
            have f0 := (hkR.box 0).f 0
            have f1 := (hkR.box 0).f 1
            have c0 := (hkR.box 0).c 0
            have c1 := (hkR.box 0).c 1
            have hSR : S ≠ w.heap.size := by have := HP0.out; omega
            have K0 := hkS.c 4
            have K1 := hkS.drew.c 4
            have K2 : ∀ u v, ((w5.setCell ⟨w.heap.size, 0, none⟩ u).setCell ⟨w.heap.size, 1, none⟩ v).cell? ⟨S, 4, none⟩ = some (.int .i64 (offA ts a)) := fun u v => ((hkS.far (g := w.heap.size) (i := 0) hSR u).far (g := w.heap.size) (i := 1) hSR v).c 4
            have K3 : ∀ u v, ((w5.setCell ⟨w.heap.size, 0, none⟩ u).setCell ⟨w.heap.size, 1, none⟩ v).drew.cell? ⟨S, 4, none⟩ = some (.int .i64 (offA ts a)) := K2
            have K4 : ∀ u v, ((w5.drew.setCell ⟨w.heap.size, 0, none⟩ u).setCell ⟨w.heap.size, 1, none⟩ v).cell? ⟨S, 4, none⟩ = some (.int .i64 (offA ts a)) := K2
            have M0 := ((hkR.box 0).put 0 (.slice none 0 0)).put 1 (.slice none 0 0)
            have z0 := M0.c 0
            have z1 := M0.c 1
            have hBF := (hkR.below.setCell (p := ⟨w.heap.size, 0, none⟩) (Nat.le_refl _) (.slice none 0 0)).setCell (p := ⟨w.heap.size, 1, none⟩) (Nat.le_refl _) (.slice none 0 0)
            have HDR := Lib.hid (show ∀ (x : World) (p : Addr), x.drew.cell? p = x.cell? p from fun _ _ => rfl)
            have HZ := Lib.hid (And.intro z0 (And.intro z1 hBF))
            clear M0 z0 z1 hBF hkR hkS
            go_region_held3 (fun W' => W'.cell? ⟨S, 4, none⟩ = some (.int .i64 (offA ts a)))
              (first | (with_reducible exact K0) | (with_reducible exact K1) | (with_reducible exact K2 _ _) | (with_reducible exact K3 _ _) | (with_reducible exact K4 _ _))
              (fail)
            all_goals clear K0 K1 K2 K3 K4
            all_goals go_wp2_with fail
            all_goals
              obtain ⟨z0, z1, hBF⟩ := HZ.out
              first
              | exact bodyPost_ret (v := .tuple #[pgv none none 0 0 0 0, .int .i64 (offA ts a)]) (by simp [results, Try.results22, go_sem, HDR.out, z0, z1]) rfl (by unfold ParsePost; rw [HPV.out, HRV.out]; exact ⟨rfl, hBF⟩)
              | exact bodyPost_ret (v := .tuple #[pgv none none 0 0 0 0, .int .i64 (offA ts a)]) (by simp [results, Try.results22, go_sem, HDR.out, z0, z1]) rfl (by unfold ParsePost; rw [HPV.out, HRV.out]; exact ⟨rfl, hBF.drew⟩)
  · have hge : 0 ≤ r2 := by
      rcases HOFF.out with h | h
      · exact absurd h h1
      · exact h
    have c0 := (HT2.box 0).c 0
    have c1 := (HT2.box 0).c 1
    have f0 := (HT2.box 0).f 0
    have f1 := (HT2.box 0).f 1
    have M0 := ((HT2.box 0).put 0 (.slice none 0 0)).put 1 (.slice none 0 0)
    have hBF := (HT2.below.setCell (p := ⟨w.heap.size, 0, none⟩) (Nat.le_refl _) (.slice none 0 0)).setCell (p := ⟨w.heap.size, 1, none⟩) (Nat.le_refl _) (.slice none 0 0)
    have HZ := Lib.hid (And.intro (M0.c 0) (And.intro (M0.c 1) hBF))
    clear M0 hBF
    go_wp2_with fail
    obtain ⟨z0, z1, hBF⟩ := HZ.out
    exact bodyPost_ret (v := .tuple #[pgv none none 0 0 0 0, .int .i64 r2]) (by simp [results, Try.results22, go_sem, z0, z1]) rfl (by
      unfold ParsePost
      rw [HPR.out, if_neg h1]
      exact ⟨rfl, hBF⟩)
end
end Go.Proofs.Ytlcnjiephbhdaaa
