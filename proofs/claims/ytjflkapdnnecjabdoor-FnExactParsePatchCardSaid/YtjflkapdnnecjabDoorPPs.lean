/- Contract of ParsePatch: the model. -/
import Derived.Test.YtjflkapdnnecjabDoorProg
import Derived.Test.YtjflkapdnnecjabDoorMem
import Derived.Test.YtjflkapdnnecjabDoorStrS
import Derived.Test.YtjflkapdnnecjabDoorNumP
import Derived.Test.YtjflkapdnnecjabDoorFmt
import Derived.Test.YtjflkapdnnecjabDoorBuilder
import Derived.Test.YtjflkapdnnecjabDoorInts
import Derived.Test.YtjflkapdnnecjabDoorIntS
import Derived.Test.YtjflkapdnnecjabDoorSplit
import Derived.Test.YtjflkapdnnecjabDoorParse
import Derived.Test.YtjflkapdnnecjabDoorFmts
import Derived.Test.YtjflkapdnnecjabDoorParses
import Derived.Test.YtjflkapdnnecjabDoorRound
import Derived.Test.YtjflkapdnnecjabDoorNumsRound
import Derived.Test.YtjflkapdnnecjabDoorFlat
import Derived.Test.YtjflkapdnnecjabDoorVbox
import Derived.Test.YtjflkapdnnecjabDoorVec
import Derived.Test.YtjflkapdnnecjabDoorVlaw
import Derived.Test.YtjflkapdnnecjabDoorVFmt
import Derived.Test.YtjflkapdnnecjabDoorVPar
import Derived.Test.YtjflkapdnnecjabDoorHeld
import Derived.Test.YtjflkapdnnecjabDoorArr
import Derived.Test.YtjflkapdnnecjabDoorTr
import Derived.Test.YtjflkapdnnecjabDoorRowC
import Derived.Test.YtjflkapdnnecjabDoorPat
import Derived.Test.YtjflkapdnnecjabDoorPVal
import Derived.Test.YtjflkapdnnecjabDoorPFmt
import Derived.Test.YtjflkapdnnecjabDoorPOf
import Derived.WalkKit
import Derived.WalkSpells
import Derived.WalkLawsBesides
import Derived.Lib.Hide
import Derived.Deep.RegionHeld3
import Derived.Deep.QuietTactic
import Derived.BigQuiet
import Derived.Handy
import Derived.Deep.DeepCutAuto
namespace Go.Proofs.YtjflkapdnnecjabDoor
open Go.RowKit

theorem fmtQ_ne {ps : List V3} (hl : ps.length = 4) (ho : okP ps = true) : fmtQ ps ≠ ⟨#[]⟩ := fun e => pat_ne (pat_of_fmt hl ho e) rfl
set_option maxRecDepth 100000 in
set_option maxHeartbeats 8000000 in
theorem sParsePatch_any (s : ByteArray) (w : World) (hs : s.size ≤ 1048576) :
    Calls Tryd.prog 8 #[.string s] w (PatIn s w) := by
  have HT : Held w ((w.alloc (.cells #[.int .i64 0, .int .i64 0, .int .i64 0, .int .i64 0, .int .i64 0, .int .i64 0, .int .i64 0, .int .i64 0, .int .i64 0, .int .i64 0, .int .i64 0, .int .i64 0] 31)).alloc (.cells #[.int .i64 0, .int .i64 0, .int .i64 0, .int .i64 0, .int .i64 0, .int .i64 0, .int .i64 0, .int .i64 0, .int .i64 0, .int .i64 0, .int .i64 0, .int .i64 0] 31)) [(w.heap.size + 1, [.int .i64 0, .int .i64 0, .int .i64 0, .int .i64 0, .int .i64 0, .int .i64 0, .int .i64 0, .int .i64 0, .int .i64 0, .int .i64 0, .int .i64 0, .int .i64 0]), (w.heap.size, [.int .i64 0, .int .i64 0, .int .i64 0, .int .i64 0, .int .i64 0, .int .i64 0, .int .i64 0, .int .i64 0, .int .i64 0, .int .i64 0, .int .i64 0, .int .i64 0])] := by
    have h := ((Held.nil w).new #[.int .i64 0, .int .i64 0, .int .i64 0, .int .i64 0, .int .i64 0, .int .i64 0, .int .i64 0, .int .i64 0, .int .i64 0, .int .i64 0, .int .i64 0, .int .i64 0] 31).new #[.int .i64 0, .int .i64 0, .int .i64 0, .int .i64 0, .int .i64 0, .int .i64 0, .int .i64 0, .int .i64 0, .int .i64 0, .int .i64 0, .int .i64 0, .int .i64 0] 31
    simpa only [World.size_alloc] using h
  have hsp0 := sSplitAny_any s spc (((w.alloc (.cells #[.int .i64 0, .int .i64 0, .int .i64 0, .int .i64 0, .int .i64 0, .int .i64 0, .int .i64 0, .int .i64 0, .int .i64 0, .int .i64 0, .int .i64 0, .int .i64 0] 31)).alloc (.cells #[.int .i64 0, .int .i64 0, .int .i64 0, .int .i64 0, .int .i64 0, .int .i64 0, .int .i64 0, .int .i64 0, .int .i64 0, .int .i64 0, .int .i64 0, .int .i64 0] 31))) hs (by decide)
  have hps := parts_size s spc
  have hpl := parts_len s spc
  have hsp : Calls Tryd.prog 18 #[.string s, .string ⟨#[32]⟩] (((w.alloc (.cells #[.int .i64 0, .int .i64 0, .int .i64 0, .int .i64 0, .int .i64 0, .int .i64 0, .int .i64 0, .int .i64 0, .int .i64 0, .int .i64 0, .int .i64 0, .int .i64 0] 31)).alloc (.cells #[.int .i64 0, .int .i64 0, .int .i64 0, .int .i64 0, .int .i64 0, .int .i64 0, .int .i64 0, .int .i64 0, .int .i64 0, .int .i64 0, .int .i64 0, .int .i64 0] 31))) (StrsOut (splitP s spc) (((w.alloc (.cells #[.int .i64 0, .int .i64 0, .int .i64 0, .int .i64 0, .int .i64 0, .int .i64 0, .int .i64 0, .int .i64 0, .int .i64 0, .int .i64 0, .int .i64 0, .int .i64 0] 31)).alloc (.cells #[.int .i64 0, .int .i64 0, .int .i64 0, .int .i64 0, .int .i64 0, .int .i64 0, .int .i64 0, .int .i64 0, .int .i64 0, .int .i64 0, .int .i64 0, .int .i64 0] 31)))) := hsp0
  clear hsp0
  obtain ⟨ws, hws⟩ : ∃ ws, ws = splitP s spc := ⟨_, rfl⟩
  have hof : ∀ qs, PatOf s qs → qs.length = 4 ∧ ws.length = 4 ∧ ∀ i (h : i < qs.length) (h' : i < ws.length), VecOf ws[i] qs[i].1 qs[i].2.1 qs[i].2.2 := fun _ h => by subst hws; exact h
  rw [← hws] at hsp hps hpl
  have HSP := Lib.hid hsp
  have HPS := Lib.hid hps
  have HPL := Lib.hid hpl
  have HOF := Lib.hid hof
  clear hsp hps hpl hof hws
  go_enter Tryd.func8, Tryd.ntmps8
  go_wp2_with fail
  refine HSP.out.mono ?_
  rintro e w1 ⟨Ap, cp, rfl, hop, hb1⟩
  have HT := HT.later hb1
  have hs1 := hb1.size
  simp only [World.size_alloc] at hs1
  have RX : Hid (∀ k (h : k < ws.length), ∃ b0 o0, Ap = some ⟨b0, o0, none⟩ ∧ w.heap.size + 1 < b0 ∧ b0 < w1.heap.size ∧ w1.cell? ⟨b0, o0 + k, none⟩ = some (Str ws[k])) := Lib.hid (fun k h => by
    obtain ⟨b0, o0, rfl, hb0, hc0⟩ := (Row.of_own hop : Row Str w1 w1.heap.size Ap ws) (by omega)
    have := own_block hop b0 rfl
    simp only [World.size_alloc] at this
    exact ⟨b0, o0, rfl, by omega, hb0, hc0 k h⟩)
  have hlt1 : w.heap.size + 1 < w1.heap.size := by omega
  have HPL' : Hid (ws.length ≤ 1048577) := Lib.hid (by have := HPL.out; omega)
  obtain ⟨B2, hB2⟩ : ∃ B, B = w1.heap.size := ⟨_, rfl⟩
  have HB2 : Hid (B2 ≤ w1.heap.size) := Lib.hid (by omega)
  rw [← hB2] at RX hlt1
  clear hb1 hop HSP HPL hs1 hB2
  go_wp2
  go_loopw [11] (fun i wr => ∃ (k : Nat) (vs : List V3), k ≤ ws.length ∧ vs.length = min k 4 ∧ i = .int .i64 k ∧ Held w wr [(w.heap.size + 1, (padV vs).flatMap vg), (w.heap.size, [.int .i64 0, .int .i64 0, .int .i64 0, .int .i64 0, .int .i64 0, .int .i64 0, .int .i64 0, .int .i64 0, .int .i64 0, .int .i64 0, .int .i64 0, .int .i64 0])] ∧ (B2 ≤ wr.heap.size ∧ ∀ p : Addr, w.heap.size + 1 < p.block → p.block < B2 → wr.cell? p = w1.cell? p) ∧ ∀ i (h : i < vs.length) (h' : i < ws.length), VecOf ws[i] vs[i].1 vs[i].2.1 vs[i].2.2 ∨ ∀ p q r, ¬ VecOf ws[i] p q r) (fun i _ => ws.length - (intOf i).toNat)
  case atStart => exact ⟨0, [], Nat.zero_le _, rfl, rfl, HT, ⟨HB2.out, fun _ _ _ => rfl⟩, fun i h => absurd h (by simp)⟩
  case round =>
    clear HT
    obtain ⟨k, vs, hk, hvl, rfl, HT, ⟨hsw, K2⟩, hvs⟩ := hrel
    have HSW := Lib.hid hsw
    clear hsw
    have HK := Lib.hid K2
    have HVS := Lib.hid hvs
    clear K2 hvs
    by_cases hlt : k < ws.length
    · obtain ⟨b0, o0, rfl, hb1, hb2, hc0⟩ := RX.out k hlt
      have c0 := (HK.out ⟨b0, o0 + k, none⟩ hb1 hb2).trans hc0
      have hsz := HPS.out (ws[k]'hlt) (List.getElem_mem _)
      obtain ⟨p, hp⟩ : ∃ p, p = ws[k]'hlt := ⟨_, rfl⟩
      have HPP := Lib.hid hp
      rw [← hp] at c0 hsz
      have hlt' : (k : Int) < (ws.length : Int) := by omega
      have hge' : (0 : Int) ≤ (k : Int) := by omega
      have hwl : ws.length ≤ 1048577 := HPL'.out
      clear hp hc0 hb1 hb2
      by_cases h4 : k < 4
      · have hk4 : (k : Int) < 4 := by omega
        have hd4 : decide ((k : Int) < 4) = true := decide_eq_true hk4
        have hvl' : vs.length = k := by omega
        go_wp2_with fail
        refine (sParseVec_any p _ (by omega)).mono ?_
        rintro e w2 ⟨b, x, y, z, rfl, h1, h2, hb2⟩
        have hlt2 : w.heap.size + 1 < wr.heap.size := (HT.box 0).lt (v := .int .i64 ((padV vs)[0]'(by rw [padV_len (by omega)]; omega)).1) (by
          have hn : 0 < (padV vs).length := by rw [padV_len (by omega)]; omega
          exact (flat_get (g := vg) vg_len (padV vs) 0 0 hn (by omega)).trans rfl)
        have HT := HT.later hb2
        have HK2 : Hid (∀ p : Addr, w.heap.size + 1 < p.block → p.block < B2 → p.block < wr.heap.size → w2.cell? p = w1.cell? p) := Lib.hid (fun p h1 h2 h3 => (hb2.cell h3).trans (HK.out p h1 h2))
        have HSZ2 : Hid (B2 ≤ w2.heap.size) := Lib.hid (Nat.le_trans HSW.out hb2.size)
        have HV : Hid (VecOf p x y z ∨ ∀ p' q' r', ¬ VecOf p p' q' r') := Lib.hid (by
          cases b
          · exact .inr (h2 rfl).2
          · exact .inl (h1 rfl))
        have hat := padV_at (vs := vs) (by omega)
        have hst := padV_step (vs := vs) (by omega) (x, y, z)
        rw [hvl'] at hat hst
        have HVN : Hid (∀ i (h : i < (vs ++ [(x, y, z)]).length) (h' : i < ws.length), VecOf ws[i] (vs ++ [(x, y, z)])[i].1 (vs ++ [(x, y, z)])[i].2.1 (vs ++ [(x, y, z)])[i].2.2 ∨ ∀ p q r, ¬ VecOf ws[i] p q r) := Lib.hid (fun i h h' => by
          by_cases hi : i < vs.length
          · rw [List.getElem_append_left hi]
            exact HVS.out i hi h'
          · have e : i = k := by simp at h; omega
            subst e
            have ev : (vs ++ [(x, y, z)])[i] = (x, y, z) := by rw [List.getElem_append_right (by omega)]; simp [hvl']
            rw [ev, ← HPP.out]
            exact HV.out)
        obtain ⟨c0, c1, c2⟩ := (HT.box 0).v3 hat
        obtain ⟨f0, f1, f2⟩ := (HT.box 0).v3f hat
        have HQ := HT.putV (by omega) (by simp) k (x, y, z)
        rw [hst] at HQ
        have HH := Lib.hid HQ
        have HKP : Hid (∀ p : Addr, w.heap.size + 1 < p.block → p.block < B2 → (((w2.setCell ⟨w.heap.size + 1, k * 3, none⟩ (.int .i64 x)).setCell ⟨w.heap.size + 1, k * 3 + 1, none⟩ (.int .i64 y)).setCell ⟨w.heap.size + 1, k * 3 + 2, none⟩ (.int .i64 z)).cell? p = w1.cell? p) := Lib.hid (fun p hp hp2 => by
          have e : ∀ (W : World) (o : Nat) (v : Value), (W.setCell ⟨w.heap.size + 1, o, none⟩ v).cell? p = W.cell? p := fun W o v => World.cell?_setCell_other W _ _ _ (by intro he; subst he; exact absurd hp (Nat.lt_irrefl _))
          rw [e, e, e]
          exact HK2.out p hp hp2 (Nat.lt_of_lt_of_le hp2 HSW.out))
        clear h1 h2 HV HVS HQ HT hat hst HPP HK2 hb2 HK hlt2 hvl hsz
        go_wp2
        go_roundw
        case rel => exact ⟨k + 1, vs ++ [(x, y, z)], by omega, by rw [List.length_append, hvl']; simp; omega, by go_num, HH.out, ⟨by have := HSZ2.out; simpa using this, HKP.out⟩, HVN.out⟩
        case measure => simp [intOf]; omega
      · have hd4 : decide ((k : Int) < 4) = false := decide_eq_false (by omega)
        have HKK := Lib.hid (show vs.length = min (k + 1) 4 by omega)
        clear HPP hsz hvl
        go_wp2
        go_roundw
        case rel => exact ⟨k + 1, vs, by omega, HKK.out, by go_num, HT, ⟨HSW.out, HK.out⟩, HVS.out⟩
        case measure => simp [intOf]; omega
    · have e : k = ws.length := by omega
      subst e
      obtain ⟨qs, hqs⟩ : ∃ qs, qs = padV vs := ⟨_, rfl⟩
      have hql : qs.length = 4 := by rw [hqs]; exact padV_len (by omega)
      have HKEY : Hid (∀ rs, PatOf s rs → rs = qs) := Lib.hid (fun rs h => by
        obtain ⟨h1, h2, h3⟩ := HOF.out rs h
        have hv4 : vs.length = 4 := by omega
        rw [hqs, padV_all hv4]
        refine List.ext_getElem (by omega) (fun i g1 g2 => ?_)
        rcases HVS.out i g2 (by omega) with hv | hv
        · obtain ⟨e1, e2, e3⟩ := vecOf_inj (h3 i g1 (by omega)) hv
          exact Prod.ext e1 (Prod.ext e2 e3)
        · exact absurd (h3 i g1 (by omega)) (hv _ _ _))
      rw [← hqs] at HT
      clear hqs HVS HK HOF RX HPS hlt hk hvl
      obtain ⟨a0, a1, a2, a3, a4, a5, a6, a7, a8, x, y, z, hq⟩ := list4V hql
      have HQL := Lib.hid hql
      clear hql
      subst hq
      have HT : Held w wr [(w.heap.size + 1, [.int .i64 a0, .int .i64 a1, .int .i64 a2, .int .i64 a3, .int .i64 a4, .int .i64 a5, .int .i64 a6, .int .i64 a7, .int .i64 a8, .int .i64 x, .int .i64 y, .int .i64 z]), (w.heap.size, [.int .i64 0, .int .i64 0, .int .i64 0, .int .i64 0, .int .i64 0, .int .i64 0, .int .i64 0, .int .i64 0, .int .i64 0, .int .i64 0, .int .i64 0, .int .i64 0])] := HT
      obtain ⟨fs, hfs⟩ : ∃ fs, fs = fmtQ [(a0, a1, a2), (a3, a4, a5), (a6, a7, a8), (x, y, z)] := ⟨_, rfl⟩
      have hF : ∀ w : World, Calls Tryd.prog 5 #[tr a0 a1 a2 a3 a4 a5 a6 a7 a8 x y z] w (fun e w' => e = .returned (.string fs) ∧ Below w.heap.size w w') := fun w => by rw [hfs]; exact sFormatPatch_any a0 a1 a2 a3 a4 a5 a6 a7 a8 x y z w
      have HF := Lib.hid hF
      clear hF
      have c0 := (HT.box 0).c 0
      have c1 := (HT.box 0).c 1
      have c2 := (HT.box 0).c 2
      have c3 := (HT.box 0).c 3
      have c4 := (HT.box 0).c 4
      have c5 := (HT.box 0).c 5
      have c6 := (HT.box 0).c 6
      have c7 := (HT.box 0).c 7
      have c8 := (HT.box 0).c 8
      have c9 := (HT.box 0).c 9
      have c10 := (HT.box 0).c 10
      have c11 := (HT.box 0).c 11
      go_wp2_with fail
      refine (HF.out _).mono ?_
      rintro e w7 ⟨rfl, hb7⟩
      have HT := HT.later hb7
      clear hb7 c0 c1 c2 c3 c4 c5 c6 c7 c8 c9 c10 c11
      rcases ho : okP [(a0, a1, a2), (a3, a4, a5), (a6, a7, a8), (x, y, z)] with _ | _
      · have hfe : fs = ⟨#[]⟩ := by rw [hfs]; unfold fmtQ; rw [ho]; rfl
        have HNO : Hid (∀ rs, ¬ PatOf s rs) := Lib.hid (fun rs h => by
          have e1 := HKEY.out rs h
          subst e1
          rw [pat_ok h] at ho
          cases ho)
        subst hfe
        clear HKEY hfs ho HF HQL
        have r0 := (HT.box 1).c 0
        have r1 := (HT.box 1).c 1
        have r2 := (HT.box 1).c 2
        have r3 := (HT.box 1).c 3
        have r4 := (HT.box 1).c 4
        have r5 := (HT.box 1).c 5
        have r6 := (HT.box 1).c 6
        have r7 := (HT.box 1).c 7
        have r8 := (HT.box 1).c 8
        have r9 := (HT.box 1).c 9
        have r10 := (HT.box 1).c 10
        have r11 := (HT.box 1).c 11
        have g0 := (HT.box 1).f 0
        have g1 := (HT.box 1).f 1
        have g2 := (HT.box 1).f 2
        have g3 := (HT.box 1).f 3
        have g4 := (HT.box 1).f 4
        have g5 := (HT.box 1).f 5
        have g6 := (HT.box 1).f 6
        have g7 := (HT.box 1).f 7
        have g8 := (HT.box 1).f 8
        have g9 := (HT.box 1).f 9
        have g10 := (HT.box 1).f 10
        have g11 := (HT.box 1).f 11
        have HW := HT.below
        clear HT
        go_wp2_with fail
        exact bodyPost_ret (v := .tuple #[tr 0 0 0 0 0 0 0 0 0 0 0 0, .bool false]) (by simp [results, Tryd.results8, go_sem, r0, r1, r2, r3, r4, r5, r6, r7, r8, r9, r10, r11]) rfl ⟨.inr ⟨rfl, HNO.out⟩, bset_far12 HW (by omega)⟩
      · have hne : fs ≠ ⟨#[]⟩ := by rw [hfs]; exact fmtQ_ne HQL.out ho
        have hbe : (fs.toList == []) = false := by
          have := str_beq fs ⟨#[]⟩
          rw [decide_eq_false hne, str_toList ⟨#[]⟩] at this
          exact this
        have c0 := (HT.box 0).c 0
        have c1 := (HT.box 0).c 1
        have c2 := (HT.box 0).c 2
        have c3 := (HT.box 0).c 3
        have c4 := (HT.box 0).c 4
        have c5 := (HT.box 0).c 5
        have c6 := (HT.box 0).c 6
        have c7 := (HT.box 0).c 7
        have c8 := (HT.box 0).c 8
        have c9 := (HT.box 0).c 9
        have c10 := (HT.box 0).c 10
        have c11 := (HT.box 0).c 11
        by_cases hfq : fs = s
        · have HY : Hid (PatOf s [(a0, a1, a2), (a3, a4, a5), (a6, a7, a8), (x, y, z)]) := Lib.hid (pat_of_fmt HQL.out ho (hfs.symm.trans hfq))
          have hbf : (fs.toList == s.toList) = true := by rw [str_beq]; exact decide_eq_true hfq
          have hbf' : (fs.toList != s.toList) = false := by rw [bne, hbf]; rfl
          clear hfs ho hfq hne HKEY HQL
          go_wp2_with fail
          refine (HF.out _).mono ?_
          rintro e w8 ⟨rfl, hb8⟩
          have HT := HT.later hb8
          clear hb8 c0 c1 c2 c3 c4 c5 c6 c7 c8 c9 c10 c11 HF
          have c0 := (HT.box 0).c 0
          have c1 := (HT.box 0).c 1
          have c2 := (HT.box 0).c 2
          have c3 := (HT.box 0).c 3
          have c4 := (HT.box 0).c 4
          have c5 := (HT.box 0).c 5
          have c6 := (HT.box 0).c 6
          have c7 := (HT.box 0).c 7
          have c8 := (HT.box 0).c 8
          have c9 := (HT.box 0).c 9
          have c10 := (HT.box 0).c 10
          have c11 := (HT.box 0).c 11
          have r0 := (HT.box 1).c 0
          have r1 := (HT.box 1).c 1
          have r2 := (HT.box 1).c 2
          have r3 := (HT.box 1).c 3
          have r4 := (HT.box 1).c 4
          have r5 := (HT.box 1).c 5
          have r6 := (HT.box 1).c 6
          have r7 := (HT.box 1).c 7
          have r8 := (HT.box 1).c 8
          have r9 := (HT.box 1).c 9
          have r10 := (HT.box 1).c 10
          have r11 := (HT.box 1).c 11
          have g0 := (HT.box 1).f 0
          have g1 := (HT.box 1).f 1
          have g2 := (HT.box 1).f 2
          have g3 := (HT.box 1).f 3
          have g4 := (HT.box 1).f 4
          have g5 := (HT.box 1).f 5
          have g6 := (HT.box 1).f 6
          have g7 := (HT.box 1).f 7
          have g8 := (HT.box 1).f 8
          have g9 := (HT.box 1).f 9
          have g10 := (HT.box 1).f 10
          have g11 := (HT.box 1).f 11
          have HW := HT.below
          clear HT
          go_wp2_with fail
          exact bodyPost_ret (v := .tuple #[tr a0 a1 a2 a3 a4 a5 a6 a7 a8 x y z, .bool true]) (by simp [results, Tryd.results8, go_sem, r0, r1, r2, r3, r4, r5, r6, r7, r8, r9, r10, r11]) rfl ⟨.inl ⟨a0, a1, a2, a3, a4, a5, a6, a7, a8, x, y, z, rfl, HY.out⟩, bset_far12 HW (by omega)⟩
        · have HNO : Hid (∀ rs, ¬ PatOf s rs) := Lib.hid (fun rs h => by
            have e1 := HKEY.out rs h
            subst e1
            exact hfq (hfs.trans (fmt_of_pat h)))
          have hbf : (fs.toList == s.toList) = false := by rw [str_beq]; exact decide_eq_false hfq
          have hbf' : (fs.toList != s.toList) = true := by rw [bne, hbf]; rfl
          clear hfs ho hfq hne HKEY HQL
          go_wp2_with fail
          refine (HF.out _).mono ?_
          rintro e w8 ⟨rfl, hb8⟩
          have HT := HT.later hb8
          clear hb8 c0 c1 c2 c3 c4 c5 c6 c7 c8 c9 c10 c11 HF
          have r0 := (HT.box 1).c 0
          have r1 := (HT.box 1).c 1
          have r2 := (HT.box 1).c 2
          have r3 := (HT.box 1).c 3
          have r4 := (HT.box 1).c 4
          have r5 := (HT.box 1).c 5
          have r6 := (HT.box 1).c 6
          have r7 := (HT.box 1).c 7
          have r8 := (HT.box 1).c 8
          have r9 := (HT.box 1).c 9
          have r10 := (HT.box 1).c 10
          have r11 := (HT.box 1).c 11
          have g0 := (HT.box 1).f 0
          have g1 := (HT.box 1).f 1
          have g2 := (HT.box 1).f 2
          have g3 := (HT.box 1).f 3
          have g4 := (HT.box 1).f 4
          have g5 := (HT.box 1).f 5
          have g6 := (HT.box 1).f 6
          have g7 := (HT.box 1).f 7
          have g8 := (HT.box 1).f 8
          have g9 := (HT.box 1).f 9
          have g10 := (HT.box 1).f 10
          have g11 := (HT.box 1).f 11
          have HW := HT.below
          clear HT
          go_wp2_with fail
          exact bodyPost_ret (v := .tuple #[tr 0 0 0 0 0 0 0 0 0 0 0 0, .bool false]) (by simp [results, Tryd.results8, go_sem, r0, r1, r2, r3, r4, r5, r6, r7, r8, r9, r10, r11]) rfl ⟨.inr ⟨rfl, HNO.out⟩, bset_far12 HW (by omega)⟩
end Go.Proofs.YtjflkapdnnecjabDoor
