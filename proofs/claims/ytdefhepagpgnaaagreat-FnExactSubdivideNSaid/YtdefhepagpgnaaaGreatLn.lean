/- Ky and Kn in one text. -/
import Derived.Test.YtdefhepagpgnaaaGreatProg
import Derived.Test.YtdefhepagpgnaaaGreatInts
import Derived.Test.YtdefhepagpgnaaaGreatVbox
import Derived.Test.YtdefhepagpgnaaaGreatVec
import Derived.Test.YtdefhepagpgnaaaGreatHeld
import Derived.Test.YtdefhepagpgnaaaGreatMem
import Derived.Test.YtdefhepagpgnaaaGreatRowC
import Derived.Test.YtdefhepagpgnaaaGreatIntS
import Derived.Test.YtdefhepagpgnaaaGreatVecS
import Derived.Test.YtdefhepagpgnaaaGreatSS
import Derived.Test.YtdefhepagpgnaaaGreatMkA
import Derived.Test.YtdefhepagpgnaaaGreatMkB
import Derived.Test.YtdefhepagpgnaaaGreatMkC
import Derived.Test.YtdefhepagpgnaaaGreatMkD
import Derived.Test.YtdefhepagpgnaaaGreatMF
import Derived.Test.YtdefhepagpgnaaaGreatMG
import Derived.Test.YtdefhepagpgnaaaGreatMH
import Derived.Test.YtdefhepagpgnaaaGreatMM
import Derived.Test.YtdefhepagpgnaaaGreatMV
import Derived.Test.YtdefhepagpgnaaaGreatMVF
import Derived.Test.YtdefhepagpgnaaaGreatMT
import Derived.Test.YtdefhepagpgnaaaGreatME
import Derived.Test.YtdefhepagpgnaaaGreatMEF
import Derived.Test.YtdefhepagpgnaaaGreatMEd
import Derived.Test.YtdefhepagpgnaaaGreatMNb
import Derived.Test.YtdefhepagpgnaaaGreatMB
import Derived.Test.YtdefhepagpgnaaaGreatMBd
import Derived.Test.YtdefhepagpgnaaaGreatKp
import Derived.Test.YtdefhepagpgnaaaGreatKa
import Derived.Test.YtdefhepagpgnaaaGreatKx
import Derived.Test.YtdefhepagpgnaaaGreatMSo
import Derived.Test.YtdefhepagpgnaaaGreatMSP
import Derived.Test.YtdefhepagpgnaaaGreatMP
import Derived.Test.YtdefhepagpgnaaaGreatMLw
import Derived.Test.YtdefhepagpgnaaaGreatKb
import Derived.Test.YtdefhepagpgnaaaGreatKc
import Derived.Test.YtdefhepagpgnaaaGreatKt
import Derived.Test.YtdefhepagpgnaaaGreatKe
import Derived.Test.YtdefhepagpgnaaaGreatKv
import Derived.WalkKit
import Derived.WalkSpells
import Derived.WalkLawsBesides
import Derived.Lib.Hide
import Derived.Deep.RegionHeld3
import Derived.Deep.QuietTactic
import Derived.BigQuiet
import Derived.Handy
import Derived.Deep.DeepCutAuto
import Derived.OwnWalk
import Derived.Maps.RangeWalk
import Derived.Maps.Ext
import Derived.Maps.OwnOps
import Derived.Maps.Views
import Derived.Maps.AppendAt
import Derived.WideKeyEntry
import Derived.DeepKeys5
import Derived.ChangeKeysEq
import Derived.WalkArith
import Derived.OpenShut
import Derived.Deep.AppendLies
/- Contract of quarterFaces, in the program. -/
namespace Go.Proofs.YtdefhepagpgnaaaGreat
open Go.RowKit Go.Maps

theorem PlcAt.drew {w : World} {b n : Nat} {g : E2 → Int} (h : PlcAt w b n g) : PlcAt w.drew b n g := h.kept (row := none) ⟨rfl, rfl, rfl, Nat.le_refl _, fun _ _ _ => rfl⟩ (by simp)
theorem rem_last (j : Nat) : ((j : Int) + 4 - 1).tmod 4 = (((j + 3) % 4 : Nat) : Int) := by
  rw [show (j : Int) + 4 - 1 = ((j + 3 : Nat) : Int) by omega]
  exact (Int.ofNat_tmod _ _).symm
theorem four_steps {n : Nat} {f : List Int} (h : okFace n f = true) (hn : n ≤ 1048576) : (stepsL f).length = 4 ∧ ∀ i, i < 4 → ∃ hi2 : i < (stepsL f).length, (stepsL f)[i] = stepAt f i ∧ wfE (stepAt f i) := by
  have h4 := (okFace_at h).1
  have hl : (stepsL f).length = 4 := by rw [stepsL_len, h4]
  refine ⟨hl, fun i _ => ⟨by omega, ?_, ?_⟩⟩
  · simp [stepsL]
  · have := wf_steps hn h _ (List.getElem_mem (l := stepsL f) (n := i) (by omega))
    simpa [stepsL] using this
set_option maxRecDepth 100000 in
set_option maxHeartbeats 16000000 in
theorem quarterFaces_any (A1 A2 : Option Addr) (c1 c2 : Nat) (vs : List V3) (fs : List (List Int)) (E : Option Addr) (ce : Nat) (w : World) (hR : MeshIn w A1 A2 vs fs) (hf : MeshFits vs fs) (hok : okMesh vs fs = true) (hE : RowSS w w.heap.size E ((edL vs fs).map pr)) :
    Calls Tryz.prog 29 #[mv A1 A2 vs.length c1 fs.length c2, .slice E (edL vs fs).length ce] w (SSOut w (subF vs fs)) := by
  have HRE := Lib.hid hE
  have HUP := Lib.hid (upE_nodup (edgesL_up ((tabL vs fs).map Prod.fst)))
  have HZL : Hid ((edL vs fs).length ≤ 256) := Lib.hid (edL_len vs fs)
  have HVL : Hid (vs.length ≤ 80 ∧ fs.length ≤ 64) := Lib.hid ⟨(ok_all hok).1, (ok_all hok).2.1⟩
  have HOF := Lib.hid (ok_all hok).2.2
  have HIE := Lib.hid (fun e (h : e ∈ edL vs fs) => (ed_in h).2)
  have HST := Lib.hid (fun k i (hk : k < fs.length) (hi : i < 4) => step_ed hok hk hi)
  have HSF : Hid (subF vs fs = qdTo vs.length (edL vs fs) fs fs.length) := Lib.hid rfl
  have HUP : Hid (edL vs fs).Nodup := HUP
  obtain ⟨Z, hZ⟩ : ∃ Z, Z = edL vs fs := ⟨_, rfl⟩
  rw [← hZ] at HRE HUP HZL HIE HST HSF ⊢
  clear hok hE hZ
  have HIN := Lib.hid hR
  have HF := Lib.hid hf
  have HT0 : Held w (w.alloc (.cells #[.slice A1 vs.length c1, .slice A2 fs.length c2] 29)) [(w.heap.size, [.slice A1 vs.length c1, .slice A2 fs.length c2])] := by
    have h := (Held.nil w).new #[.slice A1 vs.length c1, .slice A2 fs.length c2] 29
    simpa only [World.size_alloc] using h
  have HI : ∀ {bs : List (Nat × List Value)} (W : World), Held w W bs → MeshIn W A1 A2 vs fs := fun W h => ⟨(HIN.out.1.below h.below).more h.size, (HIN.out.2.below h.below).more h.size⟩
  have HT := Lib.hid HT0
  clear hR hf HT0
  have hm1 := PlcAt.made (w.alloc (.cells #[.slice A1 vs.length c1, .slice A2 fs.length c2] 29))
  rw [World.size_alloc, ← plTo_zero vs.length Z] at hm1
  have HM1 := Lib.hid hm1
  have HT1 := Lib.hid (HT.out.alloc (.map #[] 0))
  have hmm := @run_makeMap Tryz.prog
  clear HT hm1
  go_enter Tryz.func29, Tryz.ntmps29
  go_wp2_with fail
  go_loopw [20] (fun i wr => ∃ k : Nat, k ≤ Z.length ∧ i = .int .i64 k ∧ PlcAt wr (w.heap.size + 1) k (plTo vs.length Z k) ∧ Held w wr [(w.heap.size, [.slice A1 vs.length c1, .slice A2 fs.length c2])]) (fun i _ => Z.length - (intOf i).toNat)
  case atStart => exact ⟨0, Nat.zero_le _, rfl, HM1.out, HT1.out⟩
  case round =>
    clear HT1 HM1
    obtain ⟨k, hk, rfl, hm, ht⟩ := hrel
    have HM := Lib.hid hm
    have HT := Lib.hid ht
    clear hm ht
    by_cases hlt : k < Z.length
    · obtain ⟨b, o, g1, o1, c2', rfl, hbl, hc, hg1, hd0, hd1⟩ := HRE.out.pair hlt
      have hc' := (HT.out.below.cell (p := ⟨b, o + k, none⟩) hbl).trans hc
      have d0 := (HT.out.below.cell (p := ⟨g1, o1, none⟩) hg1).trans hd0
      have d1 := (HT.out.below.cell (p := ⟨g1, o1 + 1, none⟩) hg1).trans hd1
      have c0' := (HT.out.box 0).c 0
      have hin := HIE.out _ (List.getElem_mem hlt)
      have hvl := HVL.out.1
      have hzl := HZL.out
      have HWE : Hid (wfE Z[k]) := Lib.hid ⟨wfI_of (by omega) (by omega), wfI_of (by omega) (by omega)⟩
      obtain ⟨w4, hup, hm4, hg4⟩ := HM.out.drew.put (by unfold maxLen; omega) Z[k] HWE.out ((vs.length + k : Nat) : Int) (plTo_succ vs.length HUP.out hlt)
      rw [Int.natCast_add] at hup
      have hlw := HM.out.lt
      have HT4 := Lib.hid (heldGrown HT.out.drew hg4 (fun q hq => by injection hq with hq; omega) (fun p hp c => by
        simp only [List.mem_singleton] at hp
        subst hp
        simp at c))
      have HM4 := Lib.hid hm4
      obtain ⟨ed, hed⟩ : ∃ e, e = Z[k] := ⟨_, rfl⟩
      rw [← hed] at d0 d1 hup
      have e1 := wrap_in (a := (vs.length : Int) + (k : Int)) (by omega)
      have d0' : wr.drew.cell? ⟨g1, o1, none⟩ = some (.int .i64 ed.1) := d0
      have d1' : wr.drew.cell? ⟨g1, o1 + 1, none⟩ = some (.int .i64 ed.2) := d1
      have c0'' : wr.drew.cell? ⟨w.heap.size, 0, none⟩ = some (.slice A1 vs.length c1) := c0'
      clear hed hin hd0 hd1 hc hm4 hg4 HM HT
      go_upto_region 5 with fail
      go_region_with (fail)
      all_goals
        go_wp2_with fail
        go_roundw
        case rel => exact ⟨k + 1, by omega, by go_num, HM4.out, HT4.out⟩
        case measure => simp [intOf]; omega
    · have e : k = Z.length := by omega
      have hm := HM.out
      rw [e] at hm
      have HM2 := Lib.hid hm
      have HO2 := Lib.hid (nilOwn wr (w.heap.size + 2) 45 1)
      have c1' := (HT.out.box 0).c 1
      have HSZ : Hid (w.heap.size + 2 ≤ wr.heap.size) := Lib.hid HM2.out.lt
      clear hm e HM HRE HUP
      go_wp2_with fail
      clear c1'
      go_loopw [8, 42] (fun u i w2 => ∃ (k : Nat) (ps : Lot), k ≤ fs.length ∧ i = .int .i64 k ∧ ps.length = 4 * k ∧ w2.ownsRow (w.heap.size + 2) 45 1 u (4 * k) (ps.map hdr) ∧ ps.map Prod.snd = qdTo vs.length Z fs k ∧ LotT w2 ps ∧ (∀ p ∈ ps, w.heap.size + 2 ≤ p.1) ∧ PlcAt w2 (w.heap.size + 1) Z.length (plTo vs.length Z Z.length) ∧ Held w w2 [(w.heap.size, [.slice A1 vs.length c1, .slice A2 fs.length c2])] ∧ w.heap.size + 2 ≤ w2.heap.size) (fun _ i _ => fs.length - (intOf i).toNat)
      case atStart => exact ⟨0, [], Nat.zero_le _, rfl, rfl, HO2.out, rfl, LotT.nil _, (fun p h => by cases h), HM2.out, HT.out, HSZ.out⟩
      case round =>
        clear HO2 HM2 HT HSZ
        obtain ⟨k, ps, hk, rfl, hpl, hown, hsnd, hlots, hge, hm, ht, hsz⟩ := hrel
        have HPL := Lib.hid hpl
        have HO := Lib.hid hown
        have HS := Lib.hid hsnd
        have HL := Lib.hid hlots
        have HG := Lib.hid hge
        have HM := Lib.hid hm
        have HT := Lib.hid ht
        clear hpl hown hsnd hlots hge hm ht
        by_cases hlt : k < fs.length
        · obtain ⟨b, o, a, cc, rfl, hbl, hc, hle, hcm, hrow⟩ := HIN.out.2.at hlt
          have hc' := (HT.out.below.cell (p := ⟨b, o + k, none⟩) hbl).trans hc
          have hrow' := (hrow.below HT.out.below).more HT.out.size
          have c0' := (HT.out.box 0).c 0
          have HTS := Lib.hid (qdTo_succ vs.length Z fs k hlt)
          have HFO := Lib.hid (HOF.out _ (List.getElem_mem hlt))
          have HSE := Lib.hid (fun i (hi : i < 4) => HST.out k i hlt hi)
          obtain ⟨f, hf⟩ : ∃ f, f = fs[k] := ⟨_, rfl⟩
          rw [← hf] at hc' hrow' hrow
          simp only [← hf] at HTS HFO HSE
          have HRF := Lib.hid hrow
          have HF4 := Lib.hid (okFace_at HFO.out).1
          have hf4 := HF4.out
          have hvl := HVL.out
          have hzl := HZL.out
          have HFS := Lib.hid (four_steps HFO.out (by omega))
          have HFC := faceEdges_own a cc f wr hrow' (by omega)
          have e1 := wrap_in (a := (vs.length : Int) + (Z.length : Int)) (by omega)
          have e2 := wrap_in (a := (vs.length : Int) + (Z.length : Int) + (k : Int)) (by omega)
          rw [hf4] at hc' HFC
          clear hf hc hrow hrow' hle hcm
          go_wp2_with fail
          refine HFC.mono ?_
          rintro e w2 ⟨A3, c3, rfl, ho3, hb3⟩
          obtain ⟨R0, hR0⟩ : ∃ n, n = wr.heap.size := ⟨_, rfl⟩
          rw [← hR0] at ho3
          have HO3 := Lib.hid ho3
          have HM2 := Lib.hid (HM.out.later hb3)
          have HT2 := Lib.hid (HT.out.later hb3)
          have HL2 := Lib.hid (HL.out.later hb3)
          have HOQ2 := Lib.hid (own_keep' HO.out hb3)
          have hs2 : w.heap.size + 2 ≤ w2.heap.size := Nat.le_trans hsz hb3.size
          have HS2 : Hid (ps.map Prod.snd = qdTo vs.length Z fs k ++ qdF vs.length Z f k 0) := Lib.hid (by rw [HS.out]; simp [qdF])
          have hr0 : w.heap.size + 2 ≤ R0 := by omega
          have HRR : Hid (R0 ≤ w2.heap.size) := Lib.hid (by rw [hR0]; exact hb3.size)
          obtain ⟨ctr, hctr⟩ : ∃ c : Int, c = (vs.length : Int) + (Z.length : Int) + (k : Int) := ⟨_, rfl⟩
          have HCT := Lib.hid hctr
          rw [← hctr] at e2 ⊢
          clear hb3 ho3 HFC hc' HT HM HL HO HS hR0 c0' e1 e2 hctr
          go_wp2_with fail
          go_loopw [8, 59] (fun u i wi => ∃ (j : Nat) (qs : Lot), j ≤ 4 ∧ i = .int .i64 j ∧ qs.length = 4 * k + j ∧ wi.ownsRow (w.heap.size + 2) 45 1 u (4 * k + j) (qs.map hdr) ∧ qs.map Prod.snd = qdTo vs.length Z fs k ++ qdF vs.length Z f k j ∧ LotT wi qs ∧ (∀ p ∈ qs, w.heap.size + 2 ≤ p.1) ∧ PlcAt wi (w.heap.size + 1) Z.length (plTo vs.length Z Z.length) ∧ Held w wi [(w.heap.size, [.slice A1 vs.length c1, .slice (some ⟨b, o, none⟩) fs.length c2])] ∧ wi.ownsRow R0 81 2 (.slice A3 (stepsL f).length c3) (stepsL f).length ((stepsL f).flatMap eg) ∧ w.heap.size + 2 ≤ wi.heap.size) (fun _ i _ => 4 - (intOf i).toNat)
          case atStart => exact ⟨0, ps, by omega, rfl, by rw [HPL.out]; rfl, HOQ2.out, HS2.out, HL2.out, HG.out, HM2.out, HT2.out, HO3.out, hs2⟩
          case round =>
            clear HM2 HT2 HO3 HL2 HOQ2 HS2 HG HPL hs2 HRR
            obtain ⟨j, qs, hj, rfl, hql, hown, hsnd, hlots, hge, hm, ht, ho, hsz2⟩ := hrel
            have HPL := Lib.hid hql
            have HO := Lib.hid hown
            have HS := Lib.hid hsnd
            have HL := Lib.hid hlots
            have HG := Lib.hid hge
            have HM := Lib.hid hm
            have HT := Lib.hid ht
            have HOE := Lib.hid ho
            clear hql hown hsnd hlots hge hm ht ho
            by_cases hjl : j < 4
            · have hjf : j < f.length := by omega
              obtain ⟨r, hr⟩ : ∃ r, r = (j + 3) % 4 := ⟨_, rfl⟩
              have hr4 : r < 4 := by omega
              obtain ⟨hj2, hsj, hwj⟩ := HFS.out.2 j hjl
              obtain ⟨hr2, hsr, hwr⟩ := HFS.out.2 r hr4
              have hrc := (RowC.of_own eg_len HOE.out rfl : RowC 2 eg wr wr.heap.size A3 (stepsL f))
              obtain ⟨b2, o2, rfl, hbl2, hcc⟩ := hrc.at hj2
              obtain ⟨q0, q1⟩ := eg_at hcc
              obtain ⟨_, _, ea, _, hcr⟩ := hrc.at hr2
              simp only [Option.some.injEq, Addr.mk.injEq, and_true] at ea
              obtain ⟨rfl, rfl⟩ := ea
              obtain ⟨p0, p1⟩ := eg_at hcr
              rw [hsj] at q0 q1
              rw [hsr] at p0 p1
              obtain ⟨bf, of, rfl, hbf, hcf⟩ := HRF.out.at hjf
              have hcf' := (HT.out.below.cell (p := ⟨bf, of + j, none⟩) hbf).trans hcf
              have HQD : Hid (qd vs.length Z f k j = [f[j], plTo vs.length Z Z.length (und (stepAt f j)), ctr, plTo vs.length Z Z.length (und (stepAt f r))]) := Lib.hid (by
                unfold qd
                rw [plTo_mem vs.length (HSE.out j hjl), plTo_mem vs.length (HSE.out r hr4), hr, HCT.out, gd f j 0 hjf]
                congr 1)
              have HM1 := HM.out
              have HWU := Lib.hid (And.intro (wf_und hwj) (wf_und hwr))
              have hrem : ((j : Int) + 4 - 1).tmod 4 = (r : Int) := by rw [hr]; exact rem_last j
              have e1 := wrap_in (a := (j : Int) + 4) (by omega)
              have e2 := wrap_in (a := (j : Int) + 4 - 1) (by omega)
              have e3 := wrap_in (a := (r : Int)) (by omega)
              have hri : (0 : Int) ≤ (r : Int) := by omega
              have hri2 : (r : Int) < 4 := by omega
              obtain ⟨x, hx⟩ : ∃ x, x = f[j] := ⟨_, rfl⟩
              obtain ⟨s1, hs1⟩ : ∃ s, s = stepAt f j := ⟨_, rfl⟩
              obtain ⟨s2, hs2⟩ : ∃ s, s = stepAt f r := ⟨_, rfl⟩
              rw [← hx] at hcf' HQD
              rw [← hs1] at q0 q1 HWU HQD
              rw [← hs2] at p0 p1 HWU HQD
              have HLEN := HFS.out.1
              rw [HLEN]
              rw [HLEN] at HOE
              obtain ⟨y1, hy1⟩ : ∃ y, y = plTo vs.length Z Z.length (und s1) := ⟨_, rfl⟩
              obtain ⟨y2, hy2⟩ : ∃ y, y = plTo vs.length Z Z.length (und s2) := ⟨_, rfl⟩
              rw [← hy1, ← hy2] at HQD
              have HY := Lib.hid (And.intro hy1 hy2)
              clear hsj hsr hrc hcc hcr hcf hx hs1 hs2 hr hwj hwr hy1 hy2 hj2 hr2 HLEN
              go_wp2_with fail
              refine (undirected_any s1.1 s1.2 _).mono ?_
              rintro e w3 ⟨rfl, hb3⟩
              have hlk1 := (HM.out.later hb3).look (und s1) HWU.out.1
              rw [← HY.out.1] at hlk1
              have HPP : Hid (w3.cell? ⟨b2, o2 + r * 2, none⟩ = some (.int .i64 s2.1) ∧ w3.cell? ⟨b2, o2 + r * 2 + 1, none⟩ = some (.int .i64 s2.2)) := Lib.hid ⟨(hb3.cell (p := ⟨b2, o2 + r * 2, none⟩) hbl2).trans p0, (hb3.cell (p := ⟨b2, o2 + r * 2 + 1, none⟩) hbl2).trans p1⟩
              have HT3 := Lib.hid (HT.out.later hb3)
              have HM3 := Lib.hid (HM.out.later hb3)
              have HL3 := Lib.hid (HL.out.later hb3)
              have HO3 := Lib.hid (own_keep' HO.out hb3)
              have HE3 := Lib.hid (own_keep' HOE.out hb3)
              have hs3 : w.heap.size + 2 ≤ w3.heap.size := Nat.le_trans hsz2 hb3.size
              clear hb3 HT HM HL HO HOE q0 q1 p0 p1 hcf' HM1 hbl2
              have p0 := HPP.out.1
              have p1 := HPP.out.2
              go_wp2_with fail
              refine (undirected_any s2.1 s2.2 _).mono ?_
              rintro e w4 ⟨rfl, hb4⟩
              have hlk2 := (HM3.out.later hb4).look (und s2) HWU.out.2
              rw [← HY.out.2] at hlk2
              have HT4 := Lib.hid (HT3.out.later hb4)
              have HM4 := Lib.hid (HM3.out.later hb4)
              have HL4 := Lib.hid (HL3.out.later hb4)
              have HO4 := Lib.hid (own_keep' HO3.out hb4)
              have HE4 := Lib.hid (own_keep' HE3.out hb4)
              have hs4 : w.heap.size + 2 ≤ w4.heap.size := Nat.le_trans hs3 hb4.size
              have hk64 : k ≤ 64 := by omega
              clear hb4 HT3 HM3 HL3 HO3 HE3 p0 p1 HPP hlk1 e1 e2 e3
              go_wp2_with (at_builtin; (refine wpList_app1 (w4.alloc (.cells #[.int .i64 x, .int .i64 y1, .int .i64 ctr, .int .i64 y2] 3)) rfl _ _ 23 rfl (w.heap.size + 2) 45 nilS 24 Tryz.underlying23 infoSS rfl _ _ _ (by rfl) (HO4.out.alloc _) (.slice (some ⟨w4.heap.size, 0, none⟩) 4 4) (by rw [World.size_alloc]; rfl) (by rfl) (by unfold maxLen; omega) (by omega) (by simp; omega) ?_))
              intro v' w5 ho5 hg5
              have HL5 := Lib.hid ((HL4.out.new [x, y1, ctr, y2] #[.int .i64 x, .int .i64 y1, .int .i64 ctr, .int .i64 y2] rfl).row (HO4.out.alloc _) hg5)
              have hob := own_block HO4.out
              have HT5 := Lib.hid (heldGrown' (HT4.out.alloc (.cells #[.int .i64 x, .int .i64 y1, .int .i64 ctr, .int .i64 y2] 3)) hg5 (fun q hq => by have := hob q hq; omega) (fun p hp c => by
                have h1 := hob _ c.symm
                simp only [List.mem_singleton] at hp
                subst hp
                simp at h1
                omega))
              have HM5 := Lib.hid ((HM4.out.alloc (.cells #[.int .i64 x, .int .i64 y1, .int .i64 ctr, .int .i64 y2] 3)).kept hg5 (fun c => by have := hob _ c.symm; omega))
              have HO5 : Hid (w5.ownsRow (w.heap.size + 2) 45 1 v' (4 * k + (j + 1)) ((qs ++ [(w4.heap.size, [x, y1, ctr, y2])]).map hdr)) := Lib.hid (by rw [List.map_append]; exact ho5)
              have HE5 := Lib.hid ((HE4.out.alloc (.cells #[.int .i64 x, .int .i64 y1, .int .i64 ctr, .int .i64 y2] 3)).kept hg5 (own_ne HE4.out HO4.out (by decide)))
              have HG5 : Hid (∀ p ∈ qs ++ [(w4.heap.size, [x, y1, ctr, y2])], w.heap.size + 2 ≤ p.1) := Lib.hid fun p hp => by
                rcases List.mem_append.1 hp with hp | hp
                · exact HG.out p hp
                · rw [List.mem_singleton] at hp
                  subst hp
                  exact hs4
              have HS5 : Hid ((qs ++ [(w4.heap.size, [x, y1, ctr, y2])]).map Prod.snd = qdTo vs.length Z fs k ++ qdF vs.length Z f k (j + 1)) := Lib.hid (by rw [List.map_append, HS.out, qdF_succ, HQD.out, List.append_assoc]; rfl)
              have hs5 : w.heap.size + 2 ≤ w5.heap.size := Nat.le_trans (by simp; omega) hg5.size
              clear ho5 hg5 hob HO4 HL4 HT4 HM4 HE4 HG HS HQD hlk2
              go_wp2_with fail
              go_roundw
              case rel => exact ⟨j + 1, qs ++ [(w4.heap.size, [x, y1, ctr, y2])], by omega, by go_num, by simp [HPL.out]; omega, HO5.out, HS5.out, HL5.out, HG5.out, HM5.out, HT5.out, HE5.out, hs5⟩
              case measure => simp [intOf]; omega
            · have e4 : j = 4 := by omega
              have hsn := HS.out
              rw [e4, ← HTS.out] at hsn
              have HS5 := Lib.hid hsn
              have hpl5 := HPL.out
              have ho5 := HO.out
              rw [e4] at hpl5 ho5
              have HO5 := Lib.hid ho5
              clear hsn ho5 HS HO HOE
              go_wp2_with fail
              go_roundw
              case rel => exact ⟨k + 1, qs, by omega, by go_num, by omega, HO5.out, HS5.out, HL.out, HG.out, HM.out, HT.out, hsz2⟩
              case measure => simp [intOf]; omega
        · have e : k = fs.length := by omega
          obtain ⟨A9, c9, e9⟩ := own_shape HO.out
          have HFIN : Hid (SSOut w (subF vs fs) (.returned u8) wr) := Lib.hid ⟨u8, ps, rfl, by rw [HPL.out]; exact own_base HO.out (by omega), by rw [HSF.out, HS.out, e], HL.out, fun p hp => by have := HG.out p hp; omega, HT.out.below⟩
          clear e e9 HO HL HG HS
          go_wp2_with fail
          go_ret
          exact HFIN.out

end Go.Proofs.YtdefhepagpgnaaaGreat

/- Contract of Subdivide, in the program. -/
namespace Go.Proofs.YtdefhepagpgnaaaGreat
open Go.RowKit

def sbP (vs : List V3) (fs : List (List Int)) : List V3 := if subOk vs fs = true then subP vs fs else []
def sbF (vs : List V3) (fs : List (List Int)) : List (List Int) := if subOk vs fs = true then subF vs fs else []
theorem mesh_no {w : World} {vs : List V3} {fs : List (List Int)} {e : Ending} {w' : World} (h : subOk vs fs = false) (k : MeshRes w [] [] false e w') : MeshRes w (sbP vs fs) (sbF vs fs) (subOk vs fs) e w' := by
  unfold sbP sbF
  rw [h]
  exact k
theorem mesh_yes {w : World} {vs : List V3} {fs : List (List Int)} {e : Ending} {w' : World} (h : subOk vs fs = true) (k : MeshRes w (subP vs fs) (subF vs fs) true e w') : MeshRes w (sbP vs fs) (sbF vs fs) (subOk vs fs) e w' := by
  unfold sbP sbF
  rw [h]
  exact k
theorem bset2 {w W : World} {g i j : Nat} {x y : Value} (h : Below w.heap.size w W) (hg : w.heap.size ≤ g) : Below w.heap.size w ((W.setCell ⟨g, i, none⟩ x).setCell ⟨g, j, none⟩ y) :=
  h.grown (gb_set (gb_set (gb_refl W (some g)) x) y) h.size (fun k e => by injection e with e; omega)
set_option maxRecDepth 100000 in
set_option maxHeartbeats 32000000 in
theorem subdivide_any (A1 A2 : Option Addr) (c1 c2 : Nat) (vs : List V3) (fs : List (List Int)) (w : World) (hR : MeshIn w A1 A2 vs fs) (hf : MeshFits vs fs) :
    Calls Tryz.prog 8 #[mv A1 A2 vs.length c1 fs.length c2] w (MeshRes w (sbP vs fs) (sbF vs fs) (subOk vs fs)) := by
  have HIN := Lib.hid hR
  have HF := Lib.hid hf
  have HT0 : Held w ((w.alloc (.cells #[.slice A1 vs.length c1, .slice A2 fs.length c2] 29)).alloc (.cells #[.slice none 0 0, .slice none 0 0] 29)) [(w.heap.size + 1, [.slice none 0 0, .slice none 0 0]), (w.heap.size, [.slice A1 vs.length c1, .slice A2 fs.length c2])] := by
    have h := ((Held.nil w).new #[.slice A1 vs.length c1, .slice A2 fs.length c2] 29).new #[.slice none 0 0, .slice none 0 0] 29
    simpa only [World.size_alloc] using h
  have HI : ∀ {bs : List (Nat × List Value)} (W : World), Held w W bs → MeshIn W A1 A2 vs fs := fun W h => ⟨(HIN.out.1.below h.below).more h.size, (HIN.out.2.below h.below).more h.size⟩
  have HT := Lib.hid HT0
  clear hR hf HT0
  obtain ⟨ok, hok⟩ : ∃ ok, ok = okMesh vs fs := ⟨_, rfl⟩
  have HOK := Lib.hid hok
  have HC := isValidMesh_any A1 A2 c1 c2 vs fs _ (HI _ HT.out) HF.out
  rw [← hok] at HC
  clear hok
  have c0' := (HT.out.box 1).c 0
  have c1' := (HT.out.box 1).c 1
  go_enter Tryz.func8, Tryz.ntmps8
  go_wp2_with fail
  refine HC.mono ?_
  rintro e w1 ⟨rfl, hb1⟩
  have HT1 := Lib.hid (HT.out.later hb1)
  clear hb1 HT c0' c1' HC
  have r0 := (HT1.out.box 0).c 0
  have g0 := (HT1.out.box 0).f 0
  have r1 := (HT1.out.box 0).c 1
  have g1 := (HT1.out.box 0).f 1
  have c0' := (HT1.out.box 1).c 0
  have c1' := (HT1.out.box 1).c 1
  cases ok
  · have HE : Hid (subOk vs fs = false) := Lib.hid (subOk_no fun h => by have := h.1; rw [← HOK.out] at this; cases this)
    go_wp2_with fail
    exact bodyPost_ret (v := .tuple #[mv none none 0 0 0 0, .bool false]) (by simp [results, Tryz.results8, go_sem, r0, r1]) rfl (mesh_no HE.out ⟨none, 0, none, 0, [], rfl, World.ownsRow_nil _ _ _ _, World.ownsRow_nil _ _ _ _, rfl, LotT.nil _, (fun p h => by cases h), bset2 HT1.out.below (by omega)⟩)
  · have HOM : Hid (okMesh vs fs = true) := Lib.hid HOK.out.symm
    by_cases h16 : fs.length ≤ 16
    · have hd16 : decide ((fs.length : Int) > 16) = false := by simp; omega
      have HED := edges_any A1 A2 c1 c2 vs fs w1 (HI _ HT1.out) HF.out
      have HZL := Lib.hid (edL_len vs fs)
      have HVL := Lib.hid (ok_all HOM.out).1
      clear HOK
      go_wp2_with fail
      refine HED.mono ?_
      rintro e w3 hss
      obtain ⟨A6, c6, ps, rfl, hps, hown, hb3⟩ := hss.own
      have hr := hown.rowSS (fun p hp => by
        have : p.2 ∈ (edL vs fs).map pr := by rw [← hps]; exact List.mem_map.2 ⟨p, hp, rfl⟩
        obtain ⟨e, _, he⟩ := List.mem_map.1 this
        rw [← he]; simp [pr]; unfold maxLen; omega)
      rw [hps] at hr
      have HRS := Lib.hid hr
      have HT3 := Lib.hid (HT1.out.later hb3)
      clear hb3 hss hps hown hr HT1 HED r0 r1 g0 g1 c0' c1'
      have r0 := (HT3.out.box 0).c 0
      have g0 := (HT3.out.box 0).f 0
      have r1 := (HT3.out.box 0).c 1
      have g1 := (HT3.out.box 0).f 1
      have c0' := (HT3.out.box 1).c 0
      have c1' := (HT3.out.box 1).c 1
      rw [List.length_map]
      obtain ⟨Z, hZ⟩ : ∃ Z, Z = edL vs fs := ⟨_, rfl⟩
      have HZ := Lib.hid hZ
      rw [← hZ] at HRS HZL ⊢
      clear hZ
      have hzl := HZL.out
      have hvl := HVL.out
      have e1 := wrap_in (a := (vs.length : Int) + (Z.length : Int)) (by omega)
      have e2 := wrap_in (a := (vs.length : Int) + (Z.length : Int) + (fs.length : Int)) (by omega)
      by_cases h80 : vs.length + Z.length + fs.length ≤ 80
      · have hd80 : decide ((vs.length : Int) + (Z.length : Int) + (fs.length : Int) > 80) = false := by simp; omega
        have HSB : Hid (subOk vs fs = true) := Lib.hid ((subOk_iff _ _).2 ⟨HOM.out, h16, by rw [← HZ.out]; exact h80⟩)
        have HP : Hid (subP vs fs = vpS vs fs vs.length ++ epS vs fs Z ++ fpS vs fs fs.length) := Lib.hid (by unfold subP; rw [HZ.out])
        have HIE := Lib.hid (show ∀ e ∈ Z, (0 ≤ e.1 ∧ e.1 < vs.length) ∧ (0 ≤ e.2 ∧ e.2 < vs.length) from fun e h => by rw [HZ.out] at h; exact (ed_in h).2)
        have HO3 := Lib.hid (World.ownsRow_nil w3 w3.heap.size 43 3)
        have HB3 : Hid (Below w3.heap.size w3 w3) := Lib.hid (Below.refl _ _)
        have hz3 : w.heap.size + 1 < w3.heap.size := (HT3.out.box 0).lt
        clear r0 r1 g0 g1
        go_wp2_with fail
        clear c0' c1' e1 e2 hd80 hd16
        go_loopw [5, 37] (fun u i wr => ∃ k : Nat, k ≤ vs.length ∧ i = .int .i64 k ∧ wr.ownsRow w3.heap.size 43 3 u k ((vpS vs fs k).flatMap vg) ∧ Held w wr [(w.heap.size + 1, [.slice none 0 0, .slice none 0 0]), (w.heap.size, [.slice A1 vs.length c1, .slice A2 fs.length c2])] ∧ Below w3.heap.size w3 wr) (fun _ i _ => vs.length - (intOf i).toNat)
        case atStart => exact ⟨0, Nat.zero_le _, rfl, HO3.out, HT3.out, HB3.out⟩
        case round =>
          clear HO3 HT3 HB3
          obtain ⟨k, hk, rfl, hown, ht, hb⟩ := hrel
          have HO := Lib.hid hown
          have HT := Lib.hid ht
          have HB := Lib.hid hb
          clear hown ht hb
          by_cases hlt : k < vs.length
          · have c0' := (HT.out.box 1).c 0
            have c1' := (HT.out.box 1).c 1
            have HC := vertexPoint_any A1 A2 c1 c2 vs fs (k : Int) wr (HI _ HT.out) HF.out
            obtain ⟨v, hv⟩ : ∃ v, v = vpL vs fs (k : Int) := ⟨_, rfl⟩
            rw [← hv] at HC
            have HV := Lib.hid hv.symm
            clear hv
            go_wp2_with fail
            refine HC.mono ?_
            rintro e w1' ⟨rfl, hb1⟩
            have HT1 := Lib.hid (HT.out.later hb1)
            have HO1 := Lib.hid (own_keep' HO.out hb1)
            have HB1 := Lib.hid (HB.out.trans (hb1.mono HB.out.size))
            clear hb1 HC HT HO HB c0' c1'
            go_wp2_with (at_builtin; refine wpList_appN w1' rfl _ _ 27 rfl w3.heap.size 43 (vec 0 0 0) 3 24 Tryz.underlying27 infoVec rfl (by omega) _ _ _ (by rfl) HO1.out #[.int .i64 v.1, .int .i64 v.2.1, .int .i64 v.2.2] rfl (by rfl) (by simp [Value.oneCell']) (by have := HVL.out; unfold maxLen; omega) (by have := HVL.out; omega) HB1.out.size ?_)
            intro v5 w5 ho5 hg5
            have hop : ∀ q, u5.ownBlock = some q → w3.heap.size ≤ q := own_block HO1.out
            have HT5 := Lib.hid (heldGrown' HT1.out hg5 (fun q hq => by have := hop q hq; omega) (fun p hp c => by
              have h1 := hop _ c.symm
              simp only [List.mem_cons, List.not_mem_nil, or_false] at hp
              rcases hp with rfl | rfl <;> simp at h1 <;> omega))
            have HB5 := Lib.hid (below_own HB1.out hg5 HB1.out.size hop)
            have HO5 : Hid (w5.ownsRow w3.heap.size 43 3 v5 (k + 1) ((vpS vs fs (k + 1)).flatMap vg)) := Lib.hid (by
              rw [vpS_succ, HV.out,  flat_one]
              exact ho5)
            clear ho5 hg5 hop HO1 HT1 HB1
            go_wp2_with fail
            go_roundw
            case rel => exact ⟨k + 1, by omega, by go_num, HO5.out, HT5.out, HB5.out⟩
            case measure => simp [intOf]; omega
          · have e : k = vs.length := by omega
            have ho := HO.out
            rw [e] at ho
            have HO4 : Hid (wr.ownsRow w3.heap.size 43 3 u5 (vs.length + 0) ((vpS vs fs vs.length ++ epS vs fs (Z.take 0)).flatMap vg)) := Lib.hid (by simp only [List.take_zero, epS, List.map_nil, List.append_nil, Nat.add_zero]; exact ho)
            clear ho e HO
            go_wp2_with fail
            go_loopw [5, 49] (fun u i w2 => ∃ k : Nat, k ≤ Z.length ∧ i = .int .i64 k ∧ w2.ownsRow w3.heap.size 43 3 u (vs.length + k) ((vpS vs fs vs.length ++ epS vs fs (Z.take k)).flatMap vg) ∧ Held w w2 [(w.heap.size + 1, [.slice none 0 0, .slice none 0 0]), (w.heap.size, [.slice A1 vs.length c1, .slice A2 fs.length c2])] ∧ Below w3.heap.size w3 w2) (fun _ i _ => Z.length - (intOf i).toNat)
            case atStart => exact ⟨0, Nat.zero_le _, rfl, HO4.out, HT.out, HB.out⟩
            case round =>
              clear HO4 HT HB
              obtain ⟨j, hj, rfl, hown, ht, hb⟩ := hrel
              have HO := Lib.hid hown
              have HT := Lib.hid ht
              have HB := Lib.hid hb
              clear hown ht hb
              by_cases hjl : j < Z.length
              · obtain ⟨b, o, g1, o1, c2', rfl, hbl, hc, hg1, hd0, hd1⟩ := HRS.out.pair hjl
                have hin := HIE.out _ (List.getElem_mem hjl)
                have HTK := Lib.hid (epS_take vs fs Z j hjl)
                have hc' := (HB.out.cell (p := ⟨b, o + j, none⟩) hbl).trans hc
                obtain ⟨ed, hed⟩ : ∃ e, e = Z[j] := ⟨_, rfl⟩
                rw [← hed] at hd0 hd1 hin
                simp only [← hed] at HTK
                have HEP := Lib.hid (fun (W : World) (h : MeshIn W A1 A2 vs fs) => edgePoint_any A1 A2 c1 c2 vs fs ed.1 ed.2 W h HF.out (wfI_of (by omega) (by omega)) (wfI_of (by omega) (by omega)))
                have HDD := Lib.hid (And.intro hd0 hd1)
                obtain ⟨v, hv⟩ : ∃ v, v = epL vs fs ed.1 ed.2 := ⟨_, rfl⟩
                rw [← hv] at HEP HTK
                obtain ⟨i9, hi9, hz90, hz91, hz92⟩ := info_parts infoVec
                have hHQ := HT.out
                have hHB := HB.out
                have hHO := HO.out
                have hop : ∀ q, u5.ownBlock = some q → w3.heap.size ≤ q := own_block hHO
                have HC : ∀ W, Below w3.heap.size w3 W → Held w W [(w.heap.size, [.slice A1 vs.length c1, .slice A2 fs.length c2])] → (W.cell? ⟨w.heap.size, 0, none⟩ = some (.slice A1 vs.length c1) ∧ W.cell? ⟨w.heap.size, 1, none⟩ = some (.slice A2 fs.length c2) ∧ W.cell? ⟨g1, o1, none⟩ = some (.int .i64 ed.1) ∧ W.cell? ⟨g1, o1 + 1, none⟩ = some (.int .i64 ed.2)) := fun W h h2 => ⟨(h2.box 0).c 0, (h2.box 0).c 1, (h.cell (p := ⟨g1, o1, none⟩) hg1).trans HDD.out.1, (h.cell (p := ⟨g1, o1 + 1, none⟩) hg1).trans HDD.out.2⟩
                clear hed hv hin hd0 hd1 hc
                go_upto_region 15 with fail
                go_region_held3 (fun W => (W.cell? ⟨w.heap.size, 0, none⟩ = some (.slice A1 vs.length c1) ∧ W.cell? ⟨w.heap.size, 1, none⟩ = some (.slice A2 fs.length c2) ∧ W.cell? ⟨g1, o1, none⟩ = some (.int .i64 ed.1) ∧ W.cell? ⟨g1, o1 + 1, none⟩ = some (.int .i64 ed.2)))
                  (first | exact HC _ (below_own (hHB.alloc hHB.size _) hgrow (by have := hHB.size; simp; omega) hop) (heldGrown' (hHQ.alloc _) hgrow (fun q hq => by have := hop q hq; omega) (fun p hp c => by
                    have h1 := hop _ c.symm
                    simp only [List.mem_cons, List.not_mem_nil, or_false] at hp
                    rcases hp with rfl | rfl <;> simp at h1 <;> omega)).tail | (with_reducible exact HC _ hHB hHQ.tail) | (with_reducible exact HC _ hHB.drew hHQ.drew.tail) | (with_reducible exact HC _ (hHB.alloc hHB.size _) (hHQ.alloc _).tail) | (with_reducible exact HC _ (hHB.alloc hHB.size _).drew (hHQ.alloc _).drew.tail))
                  (first | (go_at_call 27; refine (HEP.out _ (by first | with_reducible exact HI _ hHQ | with_reducible exact HI _ hHQ.drew)).mono ?_; rintro e w6 ⟨rfl, hb1⟩; (first | (have hHO := own_keep' hHO hb1) | (have hHO := own_keep' hHO.drew hb1)); (first | (have hHQ := hHQ.later hb1) | (have hHQ := hHQ.drew.later hb1)); (first | (have hHB := hHB.trans (hb1.mono hHB.size)) | (have hHB := hHB.drew.trans (hb1.mono hHB.size)))) | (refine step_append_lies _ (by rfl) _ _ _ (by rfl) w3.heap.size 43 i9 _ 3 24 Tryz.underlying27 hi9 hz90 hz91 hz92 rfl (by omega) u5 (vs.length + j) _ (by rfl) (by first | with_reducible exact hHO.alloc _ | with_reducible exact (hHO.alloc _).drew) ⟨_, 0, none⟩ 1 1 [.int .i64 v.1, .int .i64 v.2.1, .int .i64 v.2.2] (by rfl) (by rfl) (World.news_of_block (cs := #[.int .i64 v.1, .int .i64 v.2.1, .int .i64 v.2.2]) (t := 43) (fr := (0, 0)) (heap_alloc_new _ _)) (by simp [Value.oneCell']) (by omega) (by unfold maxLen; omega) (by omega) (by have := hHB.size; simp; omega) _ rfl ?_; intro gg cap w5 hown5 hgrow hat hlt5))
                all_goals
                  have HT5 := Lib.hid (heldGrown' (hHQ.alloc _) hgrow (fun q hq => by have := hop q hq; omega) (fun p hp c => by
                    have h1 := hop _ c.symm
                    simp only [List.mem_cons, List.not_mem_nil, or_false] at hp
                    rcases hp with rfl | rfl <;> simp at h1 <;> omega))
                  have HB5 := Lib.hid (below_own (hHB.alloc hHB.size _) hgrow (by have := hHB.size; simp; omega) hop)
                  have HO5 : Hid (w5.ownsRow w3.heap.size 43 3 (.slice (some ⟨gg, 0, none⟩) (vs.length + j + 1) cap) (vs.length + (j + 1)) ((vpS vs fs vs.length ++ epS vs fs (Z.take (j + 1))).flatMap vg)) := Lib.hid (by
                    rw [HTK.out, ← List.append_assoc, flat_one]
                    exact hown5)
                  clear hown5 hgrow hat hHO HC hHQ hHB HO HT HB
                  go_wp2_with fail
                  go_roundw
                  case rel => exact ⟨j + 1, by omega, by go_num, HO5.out, HT5.out, HB5.out⟩
                  case measure => simp [intOf]; omega
              · have e : j = Z.length := by omega
                have ho := HO.out
                rw [e, List.take_length] at ho
                have HO4 : Hid (wr.ownsRow w3.heap.size 43 3 u5 (vs.length + Z.length + 0) ((vpS vs fs vs.length ++ epS vs fs Z ++ fpS vs fs 0).flatMap vg)) := Lib.hid (by simp only [fpS, List.range_zero, List.map_nil, List.append_nil, Nat.add_zero]; exact ho)
                have c0' := (HT.out.box 1).c 0
                have c1' := (HT.out.box 1).c 1
                clear ho e HO
                go_wp2_with fail
                clear c0' c1'
                go_loopw [5, 68] (fun u i w2 => ∃ k : Nat, k ≤ fs.length ∧ i = .int .i64 k ∧ w2.ownsRow w3.heap.size 43 3 u (vs.length + Z.length + k) ((vpS vs fs vs.length ++ epS vs fs Z ++ fpS vs fs k).flatMap vg) ∧ Held w w2 [(w.heap.size + 1, [.slice none 0 0, .slice none 0 0]), (w.heap.size, [.slice A1 vs.length c1, .slice A2 fs.length c2])] ∧ Below w3.heap.size w3 w2) (fun _ i _ => fs.length - (intOf i).toNat)
                case atStart => exact ⟨0, Nat.zero_le _, rfl, HO4.out, HT.out, HB.out⟩
                case round =>
                  clear HO4 HT HB
                  obtain ⟨k, hk, rfl, hown, ht, hb⟩ := hrel
                  have HO := Lib.hid hown
                  have HT := Lib.hid ht
                  have HB := Lib.hid hb
                  clear hown ht hb
                  have c0' := (HT.out.box 1).c 0
                  have c1' := (HT.out.box 1).c 1
                  by_cases hlt : k < fs.length
                  · have HC := facePoint_any A1 A2 c1 c2 vs fs k wr (HI _ HT.out) HF.out HOM.out hlt
                    obtain ⟨v, hv⟩ : ∃ v, v = fpI vs fs (k : Int) := ⟨_, rfl⟩
                    rw [← hv] at HC
                    have HV := Lib.hid hv.symm
                    clear hv
                    go_wp2_with fail
                    refine HC.mono ?_
                    rintro e w1' ⟨rfl, hb1⟩
                    have HT1 := Lib.hid (HT.out.later hb1)
                    have HO1 := Lib.hid (own_keep' HO.out hb1)
                    have HB1 := Lib.hid (HB.out.trans (hb1.mono HB.out.size))
                    clear hb1 HC HT HO HB c0' c1'
                    go_wp2_with (at_builtin; refine wpList_appN w1' rfl _ _ 27 rfl w3.heap.size 43 (vec 0 0 0) 3 24 Tryz.underlying27 infoVec rfl (by omega) _ _ _ (by rfl) HO1.out #[.int .i64 v.1, .int .i64 v.2.1, .int .i64 v.2.2] rfl (by rfl) (by simp [Value.oneCell']) (by have := (show vs.length + Z.length + k ≤ 80 by omega); unfold maxLen; omega) (by have := (show vs.length + Z.length + k ≤ 80 by omega); omega) HB1.out.size ?_)
                    intro v5 w5 ho5 hg5
                    have hop : ∀ q, u5.ownBlock = some q → w3.heap.size ≤ q := own_block HO1.out
                    have HT5 := Lib.hid (heldGrown' HT1.out hg5 (fun q hq => by have := hop q hq; omega) (fun p hp c => by
                      have h1 := hop _ c.symm
                      simp only [List.mem_cons, List.not_mem_nil, or_false] at hp
                      rcases hp with rfl | rfl <;> simp at h1 <;> omega))
                    have HB5 := Lib.hid (below_own HB1.out hg5 HB1.out.size hop)
                    have HO5 : Hid (w5.ownsRow w3.heap.size 43 3 v5 (vs.length + Z.length + (k + 1)) ((vpS vs fs vs.length ++ epS vs fs Z ++ fpS vs fs (k + 1)).flatMap vg)) := Lib.hid (by
                      rw [fpS_succ, HV.out, ← List.append_assoc, flat_one]
                      simp only [List.flatMap_append, List.append_assoc]
                      exact ho5)
                    clear ho5 hg5 hop HO1 HT1 HB1
                    go_wp2_with fail
                    go_roundw
                    case rel => exact ⟨k + 1, by omega, by go_num, HO5.out, HT5.out, HB5.out⟩
                    case measure => simp [intOf]; omega
                  · have e : k = fs.length := by omega
                    have ho := HO.out
                    rw [e, ← HP.out] at ho
                    have hpl : vs.length + Z.length + fs.length = (subP vs fs).length := by rw [subP_len, HZ.out]
                    rw [hpl] at ho
                    obtain ⟨A8, c8, rfl⟩ := own_shape ho
                    have HO8 := Lib.hid ho
                    have HRE := HRS.out.below HB.out
                    have HQF := quarterFaces_any A1 A2 c1 c2 vs fs A6 c6 wr (HI _ HT.out) HF.out HOM.out (by rw [← HZ.out]; exact HRE.more HB.out.size)
                    rw [← HZ.out] at HQF
                    clear ho e HO HRE hpl
                    go_wp2_with fail
                    refine HQF.mono ?_
                    rintro e w9 ⟨v9, ps9, rfl, ho9, hps9, hl9, hg9, hb9⟩
                    have hpl9 : ps9.length = (subF vs fs).length := by rw [← hps9, List.length_map]
                    rw [hpl9] at ho9
                    obtain ⟨A9, c9, rfl⟩ := own_shape ho9
                    have HT9 := Lib.hid (HT.out.later hb9)
                    have HO9 := Lib.hid (own_keep' HO8.out hb9)
                    have hsz9 : w3.heap.size ≤ wr.heap.size := HB.out.size
                    have HFO := Lib.hid (And.intro ho9 (And.intro hps9 (And.intro hl9 hg9)))
                    clear ho9 hps9 hl9 hg9 hb9 HQF HO8 HT HB c0' c1'
                    have r0 := (HT9.out.box 0).c 0
                    have g0 := (HT9.out.box 0).f 0
                    have r1 := (HT9.out.box 0).c 1
                    have g1 := (HT9.out.box 0).f 1
                    have c0' := (HT9.out.box 1).c 0
                    have c1' := (HT9.out.box 1).c 1
                    go_wp2_with fail
                    have hgr : w9.grownBy ((w9.setCell ⟨w.heap.size + 1, 0, none⟩ (.slice A8 (subP vs fs).length c8)).setCell ⟨w.heap.size + 1, 1, none⟩ (.slice A9 (subF vs fs).length c9)) (some (w.heap.size + 1)) := gb_set (gb_set (gb_refl _ _) _) _
                    exact bodyPost_ret (v := .tuple #[mv A8 A9 (subP vs fs).length c8 (subF vs fs).length c9, .bool true]) (by simp [results, Tryz.results8, go_sem, r0, r1]) rfl (mesh_yes HSB.out ⟨A8, c8, A9, c9, ps9, rfl, own_base (own_keep HO9.out hgr (by omega)) (by omega), own_base (own_keep HFO.out.1 hgr (by omega)) (by omega), HFO.out.2.1, HFO.out.2.2.1.grown hgr (fun p hp c => by injection c with c; have := HFO.out.2.2.2 p hp; omega), fun p hp => by have := HFO.out.2.2.2 p hp; omega, bset2 HT9.out.below (by omega)⟩)
      · have hd80 : decide ((vs.length : Int) + (Z.length : Int) + (fs.length : Int) > 80) = true := by simp; omega
        have HE : Hid (subOk vs fs = false) := Lib.hid (subOk_no fun h => h80 (by rw [HZ.out]; exact h.2.2))
        go_wp2_with fail
        exact bodyPost_ret (v := .tuple #[mv none none 0 0 0 0, .bool false]) (by simp [results, Tryz.results8, go_sem, r0, r1]) rfl (mesh_no HE.out ⟨none, 0, none, 0, [], rfl, World.ownsRow_nil _ _ _ _, World.ownsRow_nil _ _ _ _, rfl, LotT.nil _, (fun p h => by cases h), bset2 HT3.out.below (by omega)⟩)
    · have hd16 : decide ((fs.length : Int) > 16) = true := by simp; omega
      have HE : Hid (subOk vs fs = false) := Lib.hid (subOk_no fun h => h16 h.2.1)
      go_wp2_with fail
      exact bodyPost_ret (v := .tuple #[mv none none 0 0 0 0, .bool false]) (by simp [results, Tryz.results8, go_sem, r0, r1]) rfl (mesh_no HE.out ⟨none, 0, none, 0, [], rfl, World.ownsRow_nil _ _ _ _, World.ownsRow_nil _ _ _ _, rfl, LotT.nil _, (fun p h => by cases h), bset2 HT1.out.below (by omega)⟩)

end Go.Proofs.YtdefhepagpgnaaaGreat
