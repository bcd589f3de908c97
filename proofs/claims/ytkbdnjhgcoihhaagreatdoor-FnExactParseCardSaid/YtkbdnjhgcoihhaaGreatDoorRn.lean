/- Parse of the program. -/
import Derived.Test.YtkbdnjhgcoihhaaGreatDoorProg
import Derived.Test.YtkbdnjhgcoihhaaGreatDoorInts
import Derived.Test.YtkbdnjhgcoihhaaGreatDoorVbox
import Derived.Test.YtkbdnjhgcoihhaaGreatDoorHeld
import Derived.Test.YtkbdnjhgcoihhaaGreatDoorMem
import Derived.Test.YtkbdnjhgcoihhaaGreatDoorFlat
import Derived.Test.YtkbdnjhgcoihhaaGreatDoorRowC
import Derived.Test.YtkbdnjhgcoihhaaGreatDoorKS
import Derived.Test.YtkbdnjhgcoihhaaGreatDoorStrS
import Derived.Test.YtkbdnjhgcoihhaaGreatDoorIntS
import Derived.Test.YtkbdnjhgcoihhaaGreatDoorSS
import Derived.Test.YtkbdnjhgcoihhaaGreatDoorTok
import Derived.Test.YtkbdnjhgcoihhaaGreatDoorPg
import Derived.Test.YtkbdnjhgcoihhaaGreatDoorPh
import Derived.Test.YtkbdnjhgcoihhaaGreatDoorPi
import Derived.Test.YtkbdnjhgcoihhaaGreatDoorPk
import Derived.Test.YtkbdnjhgcoihhaaGreatDoorPl
import Derived.Test.YtkbdnjhgcoihhaaGreatDoorPp
import Derived.Test.YtkbdnjhgcoihhaaGreatDoorPq
import Derived.Test.YtkbdnjhgcoihhaaGreatDoorPr
import Derived.Test.YtkbdnjhgcoihhaaGreatDoorPs
import Derived.Test.YtkbdnjhgcoihhaaGreatDoorPt
import Derived.Test.YtkbdnjhgcoihhaaGreatDoorPu
import Derived.Test.YtkbdnjhgcoihhaaGreatDoorPv
import Derived.Test.YtkbdnjhgcoihhaaGreatDoorPw
import Derived.Test.YtkbdnjhgcoihhaaGreatDoorTp
import Derived.Test.YtkbdnjhgcoihhaaGreatDoorShelf
import Derived.Test.YtkbdnjhgcoihhaaGreatDoorRa
import Derived.Test.YtkbdnjhgcoihhaaGreatDoorRb
import Derived.Test.YtkbdnjhgcoihhaaGreatDoorRc
import Derived.Test.YtkbdnjhgcoihhaaGreatDoorRd
import Derived.Test.YtkbdnjhgcoihhaaGreatDoorPj
import Derived.Test.YtkbdnjhgcoihhaaGreatDoorPm
import Derived.Test.YtkbdnjhgcoihhaaGreatDoorRe
import Derived.Test.YtkbdnjhgcoihhaaGreatDoorRf
import Derived.Test.YtkbdnjhgcoihhaaGreatDoorRg
import Derived.Test.YtkbdnjhgcoihhaaGreatDoorRh
import Derived.Test.YtkbdnjhgcoihhaaGreatDoorRi
import Derived.Test.YtkbdnjhgcoihhaaGreatDoorRl
import Derived.Test.YtkbdnjhgcoihhaaGreatDoorDoorT
import Derived.Test.YtkbdnjhgcoihhaaGreatDoorAs
import Derived.Test.YtkbdnjhgcoihhaaGreatDoorTm
import Derived.Test.YtkbdnjhgcoihhaaGreatDoorIa
import Derived.Test.YtkbdnjhgcoihhaaGreatDoorIb
import Derived.Test.YtkbdnjhgcoihhaaGreatDoorIc
import Derived.WalkKit
import Derived.WalkSpells
import Derived.WalkLawsBesides
import Derived.Lib.Hide
import Derived.Deep.RegionHeld3
import Derived.Deep.QuietTactic
import Derived.BigQuiet
import Derived.Handy
import Derived.Deep.DeepCutAuto
import Derived.Defers
import Derived.Recover
namespace Go.Proofs.YtkbdnjhgcoihhaaGreatDoor
open Go.RowKit

/-- what Parse leaves -/
def ParsePost (s : ByteArray) (w : World) (e : Ending) (w' : World) : Prop :=
  match parseR s with
  | .bad o => e = .returned (.tuple #[pgv none none 0 0 0 0, .int .i64 o]) ∧ Below w.heap.size w w'
  | .done ns ys => Below w.heap.size w w' ∧ ∃ (base : Nat) (NA : Option Addr) (nc : Nat) (ps : List PN) (BA : Option Addr) (bc : Nat), w.heap.size ≤ base ∧ ps.map Prod.snd = ns ∧ e = .returned (.tuple #[pgv NA BA ps.length nc ys.length bc, .int .i64 (-1)]) ∧ ProgG (QO base) w' base NA nc BA bc ps ys ∧ ps.length ≤ 60 ∧ ys.length ≤ 1048576

theorem progG_keep {base : Nat} {w w' : World} {A A' : Option Addr} {c c' : Nat} {ps : List PN} {ys : List As} (h : ProgG (QO base) w base A c A' c' ps ys) (hk : ∀ b, base ≤ b → b < w.heap.size → w'.heap[b]? = w.heap[b]?) : ProgG (QO base) w' base A c A' c' ps ys := by
  obtain ⟨⟨h1, h2, h3⟩, h4, h5, h6⟩ := h
  refine ⟨⟨own_keepN h1 (fun b hb => hk b (h1.lt b hb).1 (h1.lt b hb).2), fun i hi => ⟨qo_keep (h2 i hi).1 (fun b hb => ?_), (h2 i hi).2⟩, h3⟩, own_keepN h4 (fun b hb => hk b (h4.lt b hb).1 (h4.lt b hb).2), h5, h6⟩
  have := (h2 i hi).1.lt b (of_blk hb)
  exact hk b this.1 this.2

set_option maxRecDepth 100000 in
set_option maxHeartbeats 8000000 in
theorem parse_any (s : ByteArray) (w : World) (hE : ErrT w) :
    Calls Tryz.prog 5 #[.string s] w (ParsePost s w) := by
  have hmf : ∀ (fn : Fn) (first cap : Array Value) (w : World), (Instr.makeFunc fn first cap).run Tryz.prog w = .ok (.func fn first cap) w := fun _ _ _ _ => rfl
  have HT0 : Held w ((w.alloc (.cells #[.slice none 0 0, .slice none 0 0] 25)).alloc (.cells #[.int .i64 0] 3)) [(w.heap.size + 1, [.int .i64 0]), (w.heap.size, [.slice none 0 0, .slice none 0 0])] := by
    have h := ((Held.nil w).new #[.slice none 0 0, .slice none 0 0] 25).new #[.int .i64 0] 3
    simpa only [World.size_alloc] using h
  have htk := tok_any s _ (hE.later HT0.below)
  obtain ⟨W1, hW1⟩ : ∃ W, W = (w.alloc (.cells #[.slice none 0 0, .slice none 0 0] 25)).alloc (.cells #[.int .i64 0] 3) := ⟨_, rfl⟩
  rw [← hW1] at HT0 htk
  have HTK := Lib.hid htk
  have hoff := tokP_off s
  have HG := Lib.hid (fun h => tokP_good (s := s) h)
  have HPR : Hid (parseR s = if (tokP s).2 = -1 then (prsP (tokP s).1 (4 * (tokP s).1.length + 4) ((tokP s).1.length + 1) 0 [] []).getD (.bad 0) else .bad (tokP s).2) := Lib.hid rfl
  obtain ⟨ts, hts⟩ : ∃ ts, ts = (tokP s).1 := ⟨_, rfl⟩
  obtain ⟨r2, hr2⟩ : ∃ r2, r2 = (tokP s).2 := ⟨_, rfl⟩
  have HR2 := Lib.hid hr2
  have HTT := Lib.hid hts
  rw [← hts, ← hr2] at HPR
  rw [← hr2] at hoff
  clear htk hE hts hr2
  go_enter_defers Tryz.func5, Tryz.ntmps5
  go_upto_region 1 with fail
  rw [← hW1]
  clear hW1
  go_wp2_with fail
  refine HTK.out.mono ?_
  rintro e w2 ⟨A, c, rfl, hown, hb2⟩
  have HT2 := HT0.later hb2
  rw [← HTT.out] at hown ⊢
  rw [← HR2.out]
  have HO := Lib.hid hown
  clear hb2 hown HTK
  by_cases h1 : r2 = -1
  · have b1 : (r2 != -1) = false := by simp [h1]
    have hTS : TsG ts := by rw [HTT.out]; exact HG.out (by rw [← HR2.out]; exact h1)
    have hPR : parseR s = (prsP ts (4 * ts.length + 4) (ts.length + 1) 0 [] []).getD (.bad 0) := by rw [HPR.out, if_pos h1]
    obtain ⟨R, hR⟩ := prs_some hTS.ok.ends (ts.length + 1) 0 [] [] hTS.ok.ends.1 (by omega)
    rw [hR] at hPR
    have hPR : parseR s = R := hPR
    have HPV := Lib.hid hPR
    have HPS := Lib.hid hR
    have HTS := Lib.hid hTS
    have HLEN : Hid (ts.length ≤ 2001) := Lib.hid (by
      rw [HTT.out]
      unfold tokP
      split
      · simp
      · rename_i hs
        have := tok_len (s := s) _ 0 [] rfl (Nat.le_refl _) (Nat.zero_le _)
        omega)
    clear hPR hR hTS HPR HG HTT HR2 hoff h1
    have hb3 : Below w2.heap.size w2 (w2.alloc (.cells #[.slice A ts.length c, .int .i64 0, .slice none 0 0, .slice none 0 0] 48)) := by go_grown
    have MS := Mbox.new w2 #[.slice A ts.length c, .int .i64 0, .slice none 0 0, .slice none 0 0] 48
    have HT3 := HT2.later hb3
    have hlt3 : w2.heap.size < (w2.alloc (.cells #[.slice A ts.length c, .int .i64 0, .slice none 0 0, .slice none 0 0] 48)).heap.size := by simp
    have hRow : RowC 4 tkg (w2.alloc (.cells #[.slice A ts.length c, .int .i64 0, .slice none 0 0, .slice none 0 0] 48)) w2.heap.size A ts := (RowC.of_own tkg_len HO.out rfl).below hb3
    obtain ⟨W3, hW3⟩ : ∃ W, W = w2.alloc (.cells #[.slice A ts.length c, .int .i64 0, .slice none 0 0, .slice none 0 0] 48) := ⟨_, rfl⟩
    obtain ⟨S, hS⟩ : ∃ S, S = w2.heap.size := ⟨_, rfl⟩
    rw [← hW3] at MS HT3 hlt3 hRow
    rw [← hS] at MS hlt3 hRow
    have hst0 : PSq W3 S S A c 0 ts none 0 [] (.slice none 0 0) := {
      box := MS
      low := Nat.le_refl _
      lt := hlt3
      toks := hRow
      nodes := ⟨World.ownsRow_nil _ _ _ _, (fun i hi => by simp at hi), (fun i j hi => by simp at hi)⟩
      apN := (fun h => by cases h)
      apA := (fun i hi => by simp at hi) }
    have hag0 : AsgS W3 S S none [] none 0 [] := ⟨World.ownsRow_nil _ _ _ _, (fun k h => by cases h), (fun h => by cases h), (fun p hp => by cases hp)⟩
    have hP0 : w.heap.size < S ∧ w.heap.size + 1 < S := by
      rw [hS]
      exact ⟨(HT2.box 1).lt, (HT2.box 0).lt⟩
    have HST0 := Lib.hid hst0
    have HAG0 := Lib.hid hag0
    have HH3 := Lib.hid HT3
    have HP0 := Lib.hid hP0
    clear hb3 MS hlt3 hRow hst0 hag0 HT3 HT2 HO hP0
    go_upto_region 6 with fail
    rw [← hS, ← hW3]
    clear hS hW3
    go_loopw [19] (fun _ wr => ∃ (f a : Nat) (ys : List As) (NA : Option Addr) (nc : Nat) (ps : List PN) (BA : Option Addr) (bc : Nat), prsP ts (4 * ts.length + 4) f a (ps.map Prod.snd) ys = some R ∧ PSq wr S S A c a ts NA nc ps (.slice BA ys.length bc) ∧ AsgS wr S S NA ps BA bc ys ∧ Below S W3 wr ∧ ps.length ≤ 60 ∧ a < ts.length ∧ ys.length ≤ a) (fun _ wr => leftQ S ts.length wr)
    case atStart => exact ⟨ts.length + 1, 0, [], none, 0, [], none, 0, HPS.out, HST0.out, HAG0.out, Below.refl _ _, by simp, HTS.out.ok.ends.1, by simp⟩
    case round =>
      obtain ⟨f, a, ys, NA, nc, ps, BA, bc, hpc, hst, hag, hb, hn, ha, hy⟩ := hrel
      clear HST0 HAG0
      cases f with
      | zero => simp [prsP] at hpc
      | succ f =>
      have hpk := peek_any S c a A ts (.slice NA ps.length nc) (.slice BA ys.length bc) wr hst.box hst.rows ha hst.lt
      have hlW := leftQ_good hst
      have HLW := Lib.hid hlW
      have HST := Lib.hid hst
      have HAG := Lib.hid hag
      have HB := Lib.hid hb
      have HPC := Lib.hid hpc
      obtain ⟨v, hv⟩ : ∃ v, v = tkA ts a := ⟨_, rfl⟩
      rw [← hv] at hpk
      have HV := Lib.hid hv
      obtain ⟨v0, v1, v2, v3⟩ := v
      dsimp only [tkv, tok] at hpk
      have hfl0 := fun w => tok_fld0 v0 v2 v3 v1 w
      have HPK := Lib.hid hpk
      clear hpk hlW hst hag hb hpc hv
      go_wp2_with fail
      refine HPK.out.mono ?_
      rintro e w4 ⟨rfl, hb4⟩
      have HB4 := Lib.hid (HB.out.trans (hb4.mono HST.out.baseLe))
      have hst4 := HST.out.later hb4
      have hag4 := HAG.out.later hb4
      have hH4 := HH3.out.under' HB4.out (by have := HP0.out; omega) (fun p hp => by have := HP0.out; simp only [List.mem_cons, List.not_mem_nil, or_false] at hp; rcases hp with rfl | rfl <;> simp only <;> omega)
      clear hb4 HPK HST HAG HB
      by_cases k0 : v0 = 0
      · have b0 : (v0 != 0) = false := by simp [k0]
        have hRv : R = .done (ps.map Prod.snd) ys := by
          have := HPC.out
          unfold prsP at this
          rw [if_pos (by rw [← HV.out]; exact k0)] at this
          exact (Option.some.inj this).symm
        have hpg : ProgG (QO S) w4 S NA nc BA bc ps ys := ⟨hst4.nodes, hag4.own, hag4.apN, fun i hi => hag4.apA _ (List.getElem_mem hi)⟩
        have k2 := hst4.box.c 2
        have k3 := hst4.box.c 3
        have c0 := (hH4.box 1).c 0
        have c1 := (hH4.box 1).c 1
        have f0 := (hH4.box 1).f 0
        have f1 := (hH4.box 1).f 1
        have d0 := (hH4.box 0).c 0
        have g0 := (hH4.box 0).f 0
        have M0 := (((hH4.box 1).put 0 (.slice NA ps.length nc)).put 1 (.slice BA ys.length bc)).far (g := w.heap.size + 1) (i := 0) (by omega) (.int .i64 (-1))
        have M1 := (((hH4.box 0).far (g := w.heap.size) (i := 0) (by omega) (.slice NA ps.length nc)).far (g := w.heap.size) (i := 1) (by omega) (.slice BA ys.length bc)).put 0 (.int .i64 (-1))
        have hBF := ((hH4.below.setCell (p := ⟨w.heap.size, 0, none⟩) (Nat.le_refl _) (.slice NA ps.length nc)).setCell (p := ⟨w.heap.size, 1, none⟩) (Nat.le_refl _) (.slice BA ys.length bc)).setCell (p := ⟨w.heap.size + 1, 0, none⟩) (Nat.le_succ _) (.int .i64 (-1))
        have ht := (((Turn.refl (fun k => k = w.heap.size ∨ k = w.heap.size + 1) w4).setCell (g := w.heap.size) (i := 0) (.inl rfl) (.slice NA ps.length nc)).setCell (g := w.heap.size) (i := 1) (.inl rfl) (.slice BA ys.length bc)).setCell (g := w.heap.size + 1) (i := 0) (.inr rfl) (.int .i64 (-1))
        have hpg5 := progG_keep hpg (fun b hb1 hb2 => ht.block hb2 (fun e => by have := HP0.out; omega))
        have hys : ys.length ≤ 1048576 := by have := HLEN.out; omega
        have HZ := Lib.hid (And.intro M0 (And.intro M1 (And.intro hBF hpg5)))
        have HRV := Lib.hid hRv
        clear M0 M1 hBF hpg5 hpg ht hst4 hag4 hRv k0
        go_wp2_with fail
        refine leaves_cons (f := 14) (args := #[.pointer (some ⟨w.heap.size, 0, none⟩), .pointer (some ⟨w.heap.size + 1, 0, none⟩)]) (by simp) (by simp [go_sem]) ?_
        refine (catch_idle w.heap.size (w.heap.size + 1) _).mono ?_
        rintro e u' w6 ⟨rfl, rfl, hb6⟩
        obtain ⟨M0, M1, hBF, hpg5⟩ := HZ.out
        have M0 := M0.later hb6
        have M1 := M1.later hb6
        have z0 := M0.c 0
        have z1 := M0.c 1
        have z2 := M1.c 0
        refine ⟨.tuple #[pgv NA BA ps.length nc ys.length bc, .int .i64 (-1)], by simp [results, Tryz.results5, go_sem, z0, z1, z2], ?_⟩
        unfold ParsePost
        rw [HPV.out, HRV.out]
        exact ⟨hBF.trans (hb6.mono hBF.size), S, NA, nc, ps, BA, bc, by have := HP0.out; omega, rfl, rfl, progG_keep hpg5 (fun b _ hb => hb6.block b hb), hn, hys⟩
      · have b0 : (v0 != 0) = true := by simp [k0]
        have hpc := HPC.out
        rw [prs_step (by rw [← HV.out]; exact k0)] at hpc
        have hR1 : ∃ R1, asgP ts (4 * ts.length + 4) a (ps.map Prod.snd) = some R1 := by
          cases e : asgP ts (4 * ts.length + 4) a (ps.map Prod.snd) with
          | none => rw [e] at hpc; cases hpc
          | some R1 => exact ⟨R1, rfl⟩
        obtain ⟨R1, hR1⟩ := hR1
        rw [hR1] at hpc
        have hcl := asgn_any (4 * ts.length + 4) w4 S S c a nc A NA ts ps BA bc ys R1 HTS.out hst4 hag4 hn ha (by have := HLEN.out; omega) hR1
        have HCL := Lib.hid hcl
        have HPC2 := Lib.hid hpc
        have HR1 := Lib.hid hR1
        have HS4 := Lib.hid hst4
        have HH4 := Lib.hid hH4
        clear hcl hpc hR1 hst4 hag4 hH4 HPC k0
        go_wp2_with fail
        refine HCL.out.mono ?_
        rintro e w5 hpp
        clear HCL hfl0
        cases R1 with
        | bad o =>
          obtain ⟨rfl, hb5⟩ := hpp
          have hp2 := HPC2.out
          have hRv : R = .bad o := (Option.some.inj hp2).symm
          have hH5 := HH4.out.under' hb5 (by have := HP0.out; omega) (fun p hp => by have := HP0.out; simp only [List.mem_cons, List.not_mem_nil, or_false] at hp; rcases hp with rfl | rfl <;> simp only <;> omega)
          refine leaves_cons (f := 14) (args := #[.pointer (some ⟨w.heap.size, 0, none⟩), .pointer (some ⟨w.heap.size + 1, 0, none⟩)]) (by simp) (by simp [go_sem]) ?_
          refine (catch_panic w.heap.size (w.heap.size + 1) _ _ _ o [] w5 (hH5.box 1) (hH5.box 0) (by omega) (hH5.box 1).lt (hH5.box 0).lt).mono ?_
          rintro e u' w6 ⟨rfl, rfl, M0, M1, ht⟩
          have z0 := M0.c 0
          have z1 := M0.c 1
          have z2 := M1.c 0
          refine ⟨.tuple #[pgv none none 0 0 0 0, .int .i64 o], by simp [results, Tryz.results5, go_sem, z0, z1, z2], ?_⟩
          unfold ParsePost
          rw [HPV.out, hRv]
          exact ⟨rfl, hH5.below.trans (ht.below hH5.below.size (fun k e => by rcases e with rfl | rfl <;> omega))⟩
        | ok r1 a1 ns1 =>
          obtain ⟨rfl, hb5, NA5, nc5, ps5, BA5, bc5, hps5, hst5, hag5, hn5⟩ := hpp
          subst hps5
          have hg := asg_good HTS.out.ok.ends ha HR1.out
          have hpc5 := HPC2.out
          simp only at hpc5
          have hrel : ∃ (f a : Nat) (ys : List As) (NA : Option Addr) (nc : Nat) (ps : List PN) (BA : Option Addr) (bc : Nat), prsP ts (4 * ts.length + 4) f a (ps.map Prod.snd) ys = some R ∧ PSq w5 S S A c a ts NA nc ps (.slice BA ys.length bc) ∧ AsgS w5 S S NA ps BA bc ys ∧ Below S W3 w5 ∧ ps.length ≤ 60 ∧ a < ts.length ∧ ys.length ≤ a :=
            ⟨f, a1, _, NA5, nc5, ps5, BA5, bc5, hpc5, hst5, hag5, HB4.out.trans hb5, hn5, hg.1, by simp; omega⟩
          have HREL := Lib.hid hrel
          have HMS : Hid (leftQ S ts.length w5 < leftQ S ts.length wr) := Lib.hid (by rw [leftQ_good hst5, HLW.out]; omega)
          clear hrel hpc5 hst5 hag5 hb5 hn5 HPC2 HS4 HH4 HB4
          go_wp2_with fail
          go_roundw
          case rel => exact HREL.out
          case measure => exact HMS.out
  · have b1 : (r2 != -1) = true := by simp [h1]
    have c0 := (HT2.box 1).c 0
    have c1 := (HT2.box 1).c 1
    have f0 := (HT2.box 1).f 0
    have f1 := (HT2.box 1).f 1
    have d0 := (HT2.box 0).c 0
    have g0 := (HT2.box 0).f 0
    have M0 := (((HT2.box 1).put 0 (.slice none 0 0)).put 1 (.slice none 0 0)).far (g := w.heap.size + 1) (i := 0) (by omega) (.int .i64 r2)
    have M1 := (((HT2.box 0).far (g := w.heap.size) (i := 0) (by omega) (.slice none 0 0)).far (g := w.heap.size) (i := 1) (by omega) (.slice none 0 0)).put 0 (.int .i64 r2)
    have z0 := M0.c 0
    have z1 := M0.c 1
    have z2 := M1.c 0
    have hBF := ((HT2.below.setCell (p := ⟨w.heap.size, 0, none⟩) (Nat.le_refl _) (.slice none 0 0)).setCell (p := ⟨w.heap.size, 1, none⟩) (Nat.le_refl _) (.slice none 0 0)).setCell (p := ⟨w.heap.size + 1, 0, none⟩) (Nat.le_succ _) (.int .i64 r2)
    have HZ := Lib.hid (And.intro z0 (And.intro z1 (And.intro z2 hBF)))
    clear M0 M1 z0 z1 z2 hBF
    go_wp2_with fail
    obtain ⟨z0, z1, z2, hBF⟩ := HZ.out
    refine ⟨.tuple #[pgv none none 0 0 0 0, .int .i64 r2], by simp [results, Tryz.results5, go_sem, z0, z1, z2], ?_⟩
    unfold ParsePost
    rw [HPR.out, if_neg h1]
    exact ⟨rfl, hBF⟩
end Go.Proofs.YtkbdnjhgcoihhaaGreatDoor
