/- Contract of ParsePatch: the program. -/
import Derived.Test.YtjflkapdnnecjaaDoorProg
import Derived.Test.YtjflkapdnnecjaaDoorMem
import Derived.Test.YtjflkapdnnecjaaDoorStrS
import Derived.Test.YtjflkapdnnecjaaDoorNumP
import Derived.Test.YtjflkapdnnecjaaDoorFmt
import Derived.Test.YtjflkapdnnecjaaDoorBuilder
import Derived.Test.YtjflkapdnnecjaaDoorInts
import Derived.Test.YtjflkapdnnecjaaDoorIntS
import Derived.Test.YtjflkapdnnecjaaDoorSplit
import Derived.Test.YtjflkapdnnecjaaDoorParse
import Derived.Test.YtjflkapdnnecjaaDoorFmts
import Derived.Test.YtjflkapdnnecjaaDoorParses
import Derived.Test.YtjflkapdnnecjaaDoorRound
import Derived.Test.YtjflkapdnnecjaaDoorNumsRound
import Derived.Test.YtjflkapdnnecjaaDoorFlat
import Derived.Test.YtjflkapdnnecjaaDoorVbox
import Derived.Test.YtjflkapdnnecjaaDoorVec
import Derived.Test.YtjflkapdnnecjaaDoorVlaw
import Derived.Test.YtjflkapdnnecjaaDoorVFmt
import Derived.Test.YtjflkapdnnecjaaDoorVPar
import Derived.Test.YtjflkapdnnecjaaDoorHeld
import Derived.Test.YtjflkapdnnecjaaDoorArr
import Derived.Test.YtjflkapdnnecjaaDoorTr
import Derived.Test.YtjflkapdnnecjaaDoorRowC
import Derived.Test.YtjflkapdnnecjaaDoorPat
import Derived.Test.YtjflkapdnnecjaaDoorPVal
import Derived.Test.YtjflkapdnnecjaaDoorPFmt
import Derived.Test.YtjflkapdnnecjaaDoorPOf
import Derived.WalkKit
import Derived.WalkSpells
import Derived.WalkLawsBesides
import Derived.Lib.Hide
import Derived.Deep.RegionHeld3
import Derived.Deep.QuietTactic
import Derived.BigQuiet
import Derived.Handy
import Derived.Deep.DeepCutAuto
namespace Go.Proofs.YtjflkapdnnecjaaDoor
open Go.RowKit

set_option maxRecDepth 100000 in
set_option maxHeartbeats 8000000 in
theorem parsePatch_any (s : ByteArray) (w : World) (hs : s.size ≤ 1048576) (hp : Pow w) (hE : Errs w) :
    Calls Tryd.prog 21 #[.string s] w (PatIn s w) := by
  have HT : Held w (w.alloc (.cells #[.int .i64 0, .int .i64 0, .int .i64 0, .int .i64 0, .int .i64 0, .int .i64 0, .int .i64 0, .int .i64 0, .int .i64 0, .int .i64 0, .int .i64 0, .int .i64 0] 46)) [(w.heap.size, [.int .i64 0, .int .i64 0, .int .i64 0, .int .i64 0, .int .i64 0, .int .i64 0, .int .i64 0, .int .i64 0, .int .i64 0, .int .i64 0, .int .i64 0, .int .i64 0])] := by
    have h := (Held.nil w).new #[.int .i64 0, .int .i64 0, .int .i64 0, .int .i64 0, .int .i64 0, .int .i64 0, .int .i64 0, .int .i64 0, .int .i64 0, .int .i64 0, .int .i64 0, .int .i64 0] 46
    simpa only [World.size_alloc] using h
  have HP := Lib.hid hp
  have HE := Lib.hid hE
  have hsp := splitAny_any s spc (w.alloc (.cells #[.int .i64 0, .int .i64 0, .int .i64 0, .int .i64 0, .int .i64 0, .int .i64 0, .int .i64 0, .int .i64 0, .int .i64 0, .int .i64 0, .int .i64 0, .int .i64 0] 46)) hs
  have hps := parts_size s spc
  have hpl := parts_len s spc
  have hsp : Calls Tryd.prog 56 #[.string s, .string ⟨#[32]⟩] (w.alloc (.cells #[.int .i64 0, .int .i64 0, .int .i64 0, .int .i64 0, .int .i64 0, .int .i64 0, .int .i64 0, .int .i64 0, .int .i64 0, .int .i64 0, .int .i64 0, .int .i64 0] 46)) (StrsOut (splitP s spc) (w.alloc (.cells #[.int .i64 0, .int .i64 0, .int .i64 0, .int .i64 0, .int .i64 0, .int .i64 0, .int .i64 0, .int .i64 0, .int .i64 0, .int .i64 0, .int .i64 0, .int .i64 0] 46))) := hsp
  obtain ⟨ws, hws⟩ : ∃ ws, ws = splitP s spc := ⟨_, rfl⟩
  have hof : ∀ qs, PatOf s qs → qs.length = 4 ∧ ws.length = 4 ∧ ∀ i (h : i < qs.length) (h' : i < ws.length), VecOf ws[i] qs[i].1 qs[i].2.1 qs[i].2.2 := fun _ h => by subst hws; exact h
  have hto : ∀ qs : List V3, (qs.length = 4 ∧ ws.length = 4 ∧ ∀ i (h : i < qs.length) (h' : i < ws.length), VecOf ws[i] qs[i].1 qs[i].2.1 qs[i].2.2) → PatOf s qs := fun _ h => by subst hws; exact h
  rw [← hws] at hsp hps hpl
  have HSP := Lib.hid hsp
  have HPS := Lib.hid hps
  have HOF := Lib.hid hof
  have HTO := Lib.hid hto
  clear hsp hps hof hto hws hp hE
  go_enter Tryd.func21, Tryd.ntmps21
  go_wp2_with fail
  refine HSP.out.mono ?_
  rintro e w1 ⟨Ap, cp, rfl, hop, hb1⟩
  have HT := (HT.later hb1).new #[.int .i64 0, .int .i64 0, .int .i64 0, .int .i64 0, .int .i64 0, .int .i64 0, .int .i64 0, .int .i64 0, .int .i64 0, .int .i64 0, .int .i64 0, .int .i64 0] 46
  have hs1 := hb1.size
  simp only [World.size_alloc] at hs1
  have RX : Hid (∀ W : World, (∀ p : Addr, p.block < w1.heap.size → W.cell? p = w1.cell? p) → Row Str W w1.heap.size Ap ws) := Lib.hid (fun W hW => (Row.of_own hop : Row Str w1 w1.heap.size Ap ws).keep hW)
  have K0 : Hid (∀ p : Addr, p.block < w1.heap.size → (w1.alloc (.cells #[.int .i64 0, .int .i64 0, .int .i64 0, .int .i64 0, .int .i64 0, .int .i64 0, .int .i64 0, .int .i64 0, .int .i64 0, .int .i64 0, .int .i64 0, .int .i64 0] 46)).cell? p = w1.cell? p) := Lib.hid (fun p hp => World.cell?_alloc_lt w1 _ p hp)
  clear hb1 hop HSP
  by_cases h4 : ws.length = 4
  · have hne : ((ws.length : Int) == 4) = true := by simp only [beq_iff_eq]; omega
    have hne' : ((ws.length : Int) != 4) = false := by rw [bne, hne]; rfl
    have H4 := Lib.hid h4
    clear h4
    go_upto_region 5 with fail
    clear hne hne'
    have K1 := K0.out
    clear K0
    have hlt1 : w.heap.size < w1.heap.size := by omega
    generalize w1.alloc _ = W1 at HT K1 ⊢
    obtain ⟨B1, hB1⟩ : ∃ B, B = w1.heap.size := ⟨_, rfl⟩
    rw [← hB1] at HT hlt1 RX K1 ⊢
    clear hs1 hB1
    go_wp2
    go_loopw [18] (fun i wr => ∃ (k : Nat) (vs : List V3), k ≤ 4 ∧ vs.length = k ∧ i = .int .i64 k ∧ Held w wr [(B1, (padV vs).flatMap vg), (w.heap.size, [.int .i64 0, .int .i64 0, .int .i64 0, .int .i64 0, .int .i64 0, .int .i64 0, .int .i64 0, .int .i64 0, .int .i64 0, .int .i64 0, .int .i64 0, .int .i64 0])] ∧ (∀ p : Addr, p.block < B1 → wr.cell? p = w1.cell? p) ∧ ∀ i (h : i < vs.length) (h' : i < ws.length), VecOf ws[i] vs[i].1 vs[i].2.1 vs[i].2.2) (fun i _ => 4 - (intOf i).toNat)
    case atStart => exact ⟨0, [], Nat.zero_le _, rfl, rfl, HT, K1, fun i h => absurd h (by simp)⟩
    case round =>
      clear HT K1
      obtain ⟨k, vs, hk, hvl, rfl, HT, K2, hvs⟩ := hrel
      have HK := Lib.hid K2
      have HVS := Lib.hid hvs
      have hw4 := H4.out
      by_cases hlt : k < 4
      · have hwk : k < ws.length := by rw [hw4]; exact hlt
        obtain ⟨b0, o0, rfl, hb0, hc0⟩ := (RX.out wr K2) (by omega)
        have c0 := hc0 k hwk
        have hsz := HPS.out (ws[k]'hwk) (List.getElem_mem _)
        have HKN : Hid (∀ (qs : List V3), PatOf s qs → ∃ p q r, VecOf (ws[k]'hwk) p q r) := Lib.hid (fun qs h => by
          have := HOF.out qs h
          exact ⟨_, _, _, this.2.2 k (by rw [this.1]; exact hlt) (by omega)⟩)
        obtain ⟨p, hp⟩ : ∃ p, p = ws[k]'hwk := ⟨_, rfl⟩
        have HPP := Lib.hid hp
        rw [← hp] at c0 hsz HKN
        have hlt' : (k : Int) < (ws.length : Int) := by omega
        have hlt4 : (k : Int) < 4 := by omega
        have hge' : (0 : Int) ≤ (k : Int) := by omega
        clear hp hc0 hvs K2 hw4
        go_wp2_with fail
        refine (parseVec_any p _ (by omega) (HP.out.later HT.below) (HE.out.later HT.below)).mono ?_
        rintro e w2 ⟨b, x, y, z, rfl, h1, h2, hb2⟩
        have hs2 : w.heap.size < B1 ∧ B1 < wr.heap.size := ⟨hlt1, (HT.box 0).lt (v := .int .i64 ((padV vs)[0]'(by rw [padV_len (by omega)]; omega)).1) (by
          have hn : 0 < (padV vs).length := by rw [padV_len (by omega)]; omega
          exact (flat_get (g := vg) vg_len (padV vs) 0 0 hn (by omega)).trans rfl)⟩
        have HT := (HT.later hb2).alloc (.cells #[.int .i64 x, .int .i64 y, .int .i64 z] 24)
        have hK2 : ∀ p : Addr, p.block < B1 → (w2.alloc (.cells #[.int .i64 x, .int .i64 y, .int .i64 z] 24)).cell? p = w1.cell? p := fun p hp => (World.cell?_alloc_lt w2 _ p (by have := hb2.size; omega)).trans ((hb2.cell (by omega)).trans (HK.out p hp))
        have hMV : Mbox (w2.alloc (.cells #[.int .i64 x, .int .i64 y, .int .i64 z] 24)) w2.heap.size [.int .i64 x, .int .i64 y, .int .i64 z] := Mbox.new w2 #[.int .i64 x, .int .i64 y, .int .i64 z] 24
        have hBw : w.heap.size < B1 ∧ B1 ≠ w2.heap.size := by have := hb2.size; omega
        have HHT := Lib.hid HT
        have HHK := Lib.hid hK2
        have HHM := Lib.hid hMV
        have HHB := Lib.hid hBw
        clear hb2 HK c0 HT hK2 hMV hBw hs2
        go_upto_region 9 with fail
        have HT := HHT.out
        have hK2 := HHK.out
        have hMV := HHM.out
        have hBw := HHB.out
        clear HHT HHK HHM HHB
        generalize w2.alloc _ = W2 at HT hK2 hMV ⊢
        generalize w2.heap.size = k9 at hMV hBw ⊢
        have HK2 := Lib.hid hK2
        clear hK2
        cases b
        · have HNO : Hid (∀ qs, ¬ PatOf s qs) := Lib.hid (fun qs h => by
            obtain ⟨p', q', r', hv⟩ := HKN.out qs h
            exact (h2 rfl).2 _ _ _ hv)
          clear h1 h2 HKN HPP HVS HOF HTO
          have r0 := (HT.box 1).c 0
          have r1 := (HT.box 1).c 1
          have r2 := (HT.box 1).c 2
          have r3 := (HT.box 1).c 3
          have r4 := (HT.box 1).c 4
          have r5 := (HT.box 1).c 5
          have r6 := (HT.box 1).c 6
          have r7 := (HT.box 1).c 7
          have r8 := (HT.box 1).c 8
          have r9 := (HT.box 1).c 9
          have r10 := (HT.box 1).c 10
          have r11 := (HT.box 1).c 11
          have g0 := (HT.box 1).f 0
          have g1 := (HT.box 1).f 1
          have g2 := (HT.box 1).f 2
          have g3 := (HT.box 1).f 3
          have g4 := (HT.box 1).f 4
          have g5 := (HT.box 1).f 5
          have g6 := (HT.box 1).f 6
          have g7 := (HT.box 1).f 7
          have g8 := (HT.box 1).f 8
          have g9 := (HT.box 1).f 9
          have g10 := (HT.box 1).f 10
          have g11 := (HT.box 1).f 11
          have HW := HT.below
          clear HT
          go_wp2_with fail
          exact bodyPost_ret (v := .tuple #[tr 0 0 0 0 0 0 0 0 0 0 0 0, .bool false]) (by simp [results, Tryd.results21, go_sem, r0, r1, r2, r3, r4, r5, r6, r7, r8, r9, r10, r11]) rfl ⟨.inr ⟨rfl, HNO.out⟩, bset_far12 HW (by omega)⟩
        · have HV := Lib.hid (h1 rfl)
          have hat := padV_at (vs := vs) (by omega)
          have hst := padV_step (vs := vs) (by omega) (x, y, z)
          rw [hvl] at hat hst
          have HVN : Hid (∀ i (h : i < (vs ++ [(x, y, z)]).length) (h' : i < ws.length), VecOf ws[i] (vs ++ [(x, y, z)])[i].1 (vs ++ [(x, y, z)])[i].2.1 (vs ++ [(x, y, z)])[i].2.2) := Lib.hid (fun i h h' => by
            by_cases hi : i < vs.length
            · rw [List.getElem_append_left hi]
              exact HVS.out i hi h'
            · have e : i = k := by simp at h; omega
              subst e
              have ev : (vs ++ [(x, y, z)])[i] = (x, y, z) := by rw [List.getElem_append_right (by omega)]; simp [hvl]
              rw [ev, ← HPP.out]
              exact HV.out)
          obtain ⟨c0, c1, c2⟩ := (HT.box 0).v3 hat
          obtain ⟨f0, f1, f2⟩ := (HT.box 0).v3f hat
          have m0 := hMV.c 0
          have m1 := hMV.c 1
          have m2 := hMV.c 2
          have HQ := HT.putV (by omega) (by simp <;> omega) k (x, y, z)
          obtain ⟨hBw1, hBw2⟩ := hBw
          rw [hst] at HQ
          have HH := Lib.hid HQ
          have HKP : Hid (∀ p : Addr, p.block < B1 → (((W2.setCell ⟨B1, k * 3, none⟩ (.int .i64 x)).setCell ⟨B1, k * 3 + 1, none⟩ (.int .i64 y)).setCell ⟨B1, k * 3 + 2, none⟩ (.int .i64 z)).cell? p = w1.cell? p) := Lib.hid (fun p hp => by
            have e : ∀ (W : World) (o : Nat) (v : Value), (W.setCell ⟨B1, o, none⟩ v).cell? p = W.cell? p := fun W o v => World.cell?_setCell_other W _ _ _ (by intro he; subst he; exact absurd hp (Nat.lt_irrefl _))
            rw [e, e, e]
            exact HK2.out p hp)
          clear h1 h2 HV HVS HQ HT hat hst HKN HPP HK2 hMV
          go_wp2
          go_roundw
          case rel => exact ⟨k + 1, vs ++ [(x, y, z)], by omega, by simp [hvl], by go_num, HH.out, HKP.out, HVN.out⟩
          case measure => simp [intOf]; omega
      · obtain rfl : k = 4 := by omega
        have HY := Lib.hid (HTO.out vs ⟨hvl, hw4, hvs⟩)
        rw [padV_all hvl] at HT
        obtain ⟨a0, a1, a2, a3, a4, a5, a6, a7, a8, x, y, z, rfl⟩ := list4V hvl
        have HT : Held w wr [(B1, [.int .i64 a0, .int .i64 a1, .int .i64 a2, .int .i64 a3, .int .i64 a4, .int .i64 a5, .int .i64 a6, .int .i64 a7, .int .i64 a8, .int .i64 x, .int .i64 y, .int .i64 z]), (w.heap.size, [.int .i64 0, .int .i64 0, .int .i64 0, .int .i64 0, .int .i64 0, .int .i64 0, .int .i64 0, .int .i64 0, .int .i64 0, .int .i64 0, .int .i64 0, .int .i64 0])] := HT
        have hge4 : ¬ ((4 : Int) < (ws.length : Int)) := by omega
        clear K2 HK HVS hvs HOF HTO RX HPS hlt hvl hw4
        have c0 := (HT.box 0).c 0
        have c1 := (HT.box 0).c 1
        have c2 := (HT.box 0).c 2
        have c3 := (HT.box 0).c 3
        have c4 := (HT.box 0).c 4
        have c5 := (HT.box 0).c 5
        have c6 := (HT.box 0).c 6
        have c7 := (HT.box 0).c 7
        have c8 := (HT.box 0).c 8
        have c9 := (HT.box 0).c 9
        have c10 := (HT.box 0).c 10
        have c11 := (HT.box 0).c 11
        have r0 := (HT.box 1).c 0
        have r1 := (HT.box 1).c 1
        have r2 := (HT.box 1).c 2
        have r3 := (HT.box 1).c 3
        have r4 := (HT.box 1).c 4
        have r5 := (HT.box 1).c 5
        have r6 := (HT.box 1).c 6
        have r7 := (HT.box 1).c 7
        have r8 := (HT.box 1).c 8
        have r9 := (HT.box 1).c 9
        have r10 := (HT.box 1).c 10
        have r11 := (HT.box 1).c 11
        have g0 := (HT.box 1).f 0
        have g1 := (HT.box 1).f 1
        have g2 := (HT.box 1).f 2
        have g3 := (HT.box 1).f 3
        have g4 := (HT.box 1).f 4
        have g5 := (HT.box 1).f 5
        have g6 := (HT.box 1).f 6
        have g7 := (HT.box 1).f 7
        have g8 := (HT.box 1).f 8
        have g9 := (HT.box 1).f 9
        have g10 := (HT.box 1).f 10
        have g11 := (HT.box 1).f 11
        have HW := HT.below
        clear HT
        go_wp2_with fail
        exact bodyPost_ret (v := .tuple #[tr a0 a1 a2 a3 a4 a5 a6 a7 a8 x y z, .bool true]) (by simp [results, Tryd.results21, go_sem, r0, r1, r2, r3, r4, r5, r6, r7, r8, r9, r10, r11]) rfl ⟨.inl ⟨a0, a1, a2, a3, a4, a5, a6, a7, a8, x, y, z, rfl, HY.out⟩, bset_far12 HW (by omega)⟩
  · have hne : ((ws.length : Int) == 4) = false := by simp only [beq_eq_false_iff_ne, ne_eq]; omega
    have hne' : ((ws.length : Int) != 4) = true := by rw [bne, hne]; rfl
    have HNO : Hid (∀ qs, ¬ PatOf s qs) := Lib.hid (fun qs h => h4 (HOF.out qs h).2.1)
    clear HOF HTO HPS RX K0 h4
    go_upto_region 3 with fail
    generalize w1.alloc _ = W1 at HT ⊢
    generalize w1.heap.size = k1 at HT hs1 ⊢
    clear hs1
    have r0 := (HT.box 1).c 0
    have r1 := (HT.box 1).c 1
    have r2 := (HT.box 1).c 2
    have r3 := (HT.box 1).c 3
    have r4 := (HT.box 1).c 4
    have r5 := (HT.box 1).c 5
    have r6 := (HT.box 1).c 6
    have r7 := (HT.box 1).c 7
    have r8 := (HT.box 1).c 8
    have r9 := (HT.box 1).c 9
    have r10 := (HT.box 1).c 10
    have r11 := (HT.box 1).c 11
    have g0 := (HT.box 1).f 0
    have g1 := (HT.box 1).f 1
    have g2 := (HT.box 1).f 2
    have g3 := (HT.box 1).f 3
    have g4 := (HT.box 1).f 4
    have g5 := (HT.box 1).f 5
    have g6 := (HT.box 1).f 6
    have g7 := (HT.box 1).f 7
    have g8 := (HT.box 1).f 8
    have g9 := (HT.box 1).f 9
    have g10 := (HT.box 1).f 10
    have g11 := (HT.box 1).f 11
    have HW := HT.below
    clear HT
    go_wp2_with fail
    exact bodyPost_ret (v := .tuple #[tr 0 0 0 0 0 0 0 0 0 0 0 0, .bool false]) (by simp [results, Tryd.results21, go_sem, r0, r1, r2, r3, r4, r5, r6, r7, r8, r9, r10, r11]) rfl ⟨.inr ⟨rfl, HNO.out⟩, bset_far12 HW (by omega)⟩
end Go.Proofs.YtjflkapdnnecjaaDoor
