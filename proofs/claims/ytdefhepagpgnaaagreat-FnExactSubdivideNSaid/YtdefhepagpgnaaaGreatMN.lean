/- Contracts of repeatsDirectedEdge and of IsValidMesh, in the program and in its model. -/
import Derived.Test.YtdefhepagpgnaaaGreatProg
import Derived.Test.YtdefhepagpgnaaaGreatInts
import Derived.Test.YtdefhepagpgnaaaGreatVbox
import Derived.Test.YtdefhepagpgnaaaGreatVec
import Derived.Test.YtdefhepagpgnaaaGreatHeld
import Derived.Test.YtdefhepagpgnaaaGreatMem
import Derived.Test.YtdefhepagpgnaaaGreatRowC
import Derived.Test.YtdefhepagpgnaaaGreatIntS
import Derived.Test.YtdefhepagpgnaaaGreatVecS
import Derived.Test.YtdefhepagpgnaaaGreatSS
import Derived.Test.YtdefhepagpgnaaaGreatMkA
import Derived.Test.YtdefhepagpgnaaaGreatMkB
import Derived.Test.YtdefhepagpgnaaaGreatMkC
import Derived.Test.YtdefhepagpgnaaaGreatMkD
import Derived.Test.YtdefhepagpgnaaaGreatMF
import Derived.Test.YtdefhepagpgnaaaGreatMG
import Derived.Test.YtdefhepagpgnaaaGreatMH
import Derived.Test.YtdefhepagpgnaaaGreatMM
import Derived.WalkKit
import Derived.WalkSpells
import Derived.WalkLawsBesides
import Derived.Lib.Hide
import Derived.Deep.RegionHeld3
import Derived.Deep.QuietTactic
import Derived.BigQuiet
import Derived.Handy
import Derived.Deep.DeepCutAuto
import Derived.OwnWalk
import Derived.Maps.RangeWalk
import Derived.Maps.Ext
import Derived.Maps.OwnOps
import Derived.Maps.Views
import Derived.WideKeyEntry
import Derived.DeepKeys5
import Derived.ChangeKeysEq
import Derived.WalkArith
import Derived.OpenShut
namespace Go.Proofs.YtdefhepagpgnaaaGreat
open Go.RowKit Go.Maps


theorem wf_at {n : Nat} (hn : n ≤ 1048576) {f : List Int} (h : okFace n f = true) (k : Nat) (hk : k < f.length) : wfI f[k] := by
  have h1 := (okFace_at h).2 k hk
  unfold okAt at h1
  rw [gd f k 0 hk] at h1
  simp only [Bool.and_eq_true, decide_eq_true_eq] at h1
  exact wfI_of (by omega) (by omega)
theorem wf_steps {n : Nat} (hn : n ≤ 1048576) {f : List Int} (h : okFace n f = true) : ∀ e ∈ stepsL f, wfE e := by
  intro e he
  obtain ⟨k, hk, rfl⟩ := List.mem_map.1 he
  have hk := List.mem_range.1 hk
  have hr : (k + 1) % f.length < f.length := Nat.mod_lt _ (by omega)
  rw [stepAt_eq f k hk hr]
  exact ⟨wf_at hn h k hk, wf_at hn h _ hr⟩
theorem SeenAt.box {w : World} {b n : Nat} {S : List E2} (h : SeenAt w b n S) (o : Obj) (x y : Value) : SeenAt (((w.alloc o).setCell ⟨w.heap.size, 0, none⟩ x).setCell ⟨w.heap.size, 1, none⟩ y) b n S := by
  have hl := h.lt
  have h1 : SeenAt (w.alloc o) b n S := h.kept (World.grownBy_alloc w o none) (by simp)
  obtain ⟨D, ho, h2⟩ := h1
  exact ⟨D, (ho.setCell (a := ⟨w.heap.size, 0, none⟩) (by simp; omega) x).setCell (a := ⟨w.heap.size, 1, none⟩) (by simp; omega) y, h2⟩
set_option maxRecDepth 100000 in
set_option maxHeartbeats 4000000 in
theorem repeats_any (A : Option Addr) (c n : Nat) (fs : List (List Int)) (w : World) (hR : RowSS w w.heap.size A fs) (hl : fs.length ≤ 64) (hn : n ≤ 1048576) (hok : ∀ f ∈ fs, okFace n f = true) :
    Calls Tryz.prog 56 #[.slice A fs.length c] w fun e w' => e = .returned (.bool (!decide (fs.flatMap stepsL).Nodup)) ∧ Below w.heap.size w w' := by
  obtain ⟨R, hRR⟩ : ∃ R, R = !decide (fs.flatMap stepsL).Nodup := ⟨_, rfl⟩
  rw [← hRR]
  have HRR := Lib.hid hRR
  have HR := Lib.hid hR
  have HOK := Lib.hid hok
  have hS0 := SeenAt.made w
  have HB0 : Hid (Below w.heap.size w (w.alloc (.map #[] 0))) := Lib.hid (by go_grown)
  obtain ⟨B, hB⟩ : ∃ B, B = w.heap.size := ⟨_, rfl⟩
  have HBB := Lib.hid hB
  have HS0 := Lib.hid hS0
  clear hRR hR hok hS0 hB
  have hmm := @run_makeMap Tryz.prog
  go_enter Tryz.func56, Tryz.ntmps56
  go_wp2
  rw [← HBB.out] at HS0 ⊢
  go_loopw [11] (fun i wr => ∃ k : Nat, k ≤ fs.length ∧ i = .int .i64 k ∧ SeenAt wr B (4 * k) (stepsTo fs k) ∧ (stepsTo fs k).Nodup ∧ Below w.heap.size w wr) (fun i _ => fs.length - (intOf i).toNat)
  case atStart => exact ⟨0, Nat.zero_le _, rfl, HS0.out, by simp [stepsTo], HB0.out⟩
  case round =>
    obtain ⟨k, hk, rfl, hseen, hnd, hb⟩ := hrel
    clear HS0 HB0
    have HSE := Lib.hid hseen
    have HND := Lib.hid hnd
    have HB := Lib.hid hb
    clear hseen hnd hb
    by_cases hlt : k < fs.length
    · obtain ⟨b, o, a, c1, rfl, hbl, hc, hle, hcm, hrow⟩ := HR.out.at hlt
      have hc := (HB.out.cell (p := ⟨b, o + k, none⟩) hbl).trans hc
      have hrow := (hrow.below HB.out).more HB.out.size
      have hfok := HOK.out _ (List.getElem_mem hlt)
      have HST := Lib.hid (stepsTo_succ fs k hlt)
      have HPRE := Lib.hid (stepsTo_pre fs (k + 1))
      obtain ⟨f, hf⟩ : ∃ f, f = fs[k] := ⟨_, rfl⟩
      rw [← hf] at hc hrow hfok HST
      have HF := Lib.hid hfok
      have HF4 := Lib.hid (okFace_at hfok).1
      have HRO := Lib.hid hrow
      clear hf hle hcm hrow hfok
      have HLEN : Hid ((stepsL f).length = 4) := Lib.hid (by rw [stepsL_len, HF4.out])
      go_wp2_with fail
      refine (faceEdges_any a c1 f wr HRO.out (by have := HF4.out; omega)).mono ?_
      rintro e w2 ⟨A2, c2, rfl, hrc, hge, hb2⟩
      have HRC := Lib.hid hrc
      have HGE := Lib.hid hge
      have hltB := HSE.out.lt
      have HSE2 := Lib.hid (HSE.out.later hb2)
      have HB2 := Lib.hid (bcall HB.out hb2 HB.out.size)
      clear hb2 hrc hge HRO HB HSE hc
      rw [HLEN.out]
      go_wp2
      go_loopw [18] (fun i wi => ∃ j : Nat, j ≤ 4 ∧ i = .int .i64 j ∧ SeenAt wi B (4 * k + j) (stepsTo fs k ++ (stepsL f).take j) ∧ (stepsTo fs k ++ (stepsL f).take j).Nodup ∧ Turn (fun x => x = B) w2 wi) (fun i _ => 4 - (intOf i).toNat)
      case atStart => exact ⟨0, by omega, rfl, by simpa using HSE2.out, by simpa using HND.out, Turn.refl _ _⟩
      case round =>
        obtain ⟨j, hj, rfl, hseen, hnd, ht⟩ := hrel
        clear HSE2
        have HSE := Lib.hid hseen
        have HNJ := Lib.hid hnd
        have HT := Lib.hid ht
        clear hseen hnd ht
        by_cases hjl : j < 4
        · have hjs : j < (stepsL f).length := by rw [HLEN.out]; exact hjl
          obtain ⟨b2, o2, rfl, hbl2, hcc⟩ := HRC.out.at hjs
          obtain ⟨q0, q1⟩ := eg_at hcc
          have hne : b2 ≠ B := by have := HGE.out _ rfl; simp at this; omega
          have hblk := HT.out.block hbl2 (by simpa using hne)
          have c0 := (World.cell?_of_block (a := ⟨b2, o2 + j * 2, none⟩) hblk).trans q0
          have c1 := (World.cell?_of_block (a := ⟨b2, o2 + j * 2 + 1, none⟩) hblk).trans q1
          have HWF := Lib.hid (wf_steps hn HF.out _ (List.getElem_mem hjs))
          have HTK := Lib.hid (List.take_succ_eq_append_getElem hjs)
          obtain ⟨e, he⟩ : ∃ e, e = (stepsL f)[j] := ⟨_, rfl⟩
          rw [← he] at c0 c1 HWF HTK
          clear q0 q1 hcc hjs hne hblk he
          have hS1 := HSE.out.kept (World.grownBy_alloc wr (.cells #[.int .i64 e.1, .int .i64 e.2] 81) none) (by simp)
          have hlk := hS1.look e HWF.out
          obtain ⟨w3, hup, hs3, hg3⟩ := hS1.put (by unfold maxLen; omega) e HWF.out
          have hE : stepsTo fs k ++ (stepsL f).take j ++ [e] = stepsTo fs k ++ (stepsL f).take (j + 1) := by rw [HTK.out, List.append_assoc]
          have HS3 : Hid (SeenAt w3 B (4 * k + (j + 1)) (stepsTo fs k ++ (stepsL f).take (j + 1))) := Lib.hid (by rw [← hE]; exact hs3)
          have HT3 : Hid (Turn (fun x => x = B) w2 w3) := Lib.hid ((HT.out.trans (Turn.of_later (show Below wr.heap.size wr (wr.alloc (.cells #[.int .i64 e.1, .int .i64 e.2] 81)) by go_grown))).trans (Turn.of_grown hg3))
          obtain ⟨q, hq⟩ : ∃ q, q = (stepsTo fs k ++ (stepsL f).take j).contains e := ⟨_, rfl⟩
          have HQ := Lib.hid hq
          rw [← hq] at hlk
          clear hS1 hs3 hg3 hq HSE
          cases q
          · have HN3 : Hid (stepsTo fs k ++ (stepsL f).take (j + 1)).Nodup := Lib.hid (by
              rw [← hE, List.nodup_append]
              refine ⟨HNJ.out, by simp, fun x hx y hy he => ?_⟩
              rw [List.mem_singleton] at hy
              subst hy
              subst he
              have := HQ.out
              rw [List.contains_iff_mem.2 hx] at this
              cases this)
            clear hE
            go_wp2_with fail
            go_roundw
            case rel => exact ⟨j + 1, by omega, by go_num, HS3.out, HN3.out, HT3.out⟩
            case measure => simp [intOf]; omega
          · have HRT : Hid (true = R) := Lib.hid (by
              rw [HRR.out]
              obtain ⟨r, hr⟩ := HPRE.out
              have hm : e ∈ stepsTo fs k ++ (stepsL f).take j := by simpa using HQ.out.symm
              have hsplit : fs.flatMap stepsL = (stepsTo fs k ++ (stepsL f).take j) ++ e :: ((stepsL f).drop (j + 1) ++ r) := by
                rw [hr, HST.out]
                have : stepsL f = (stepsL f).take j ++ e :: (stepsL f).drop (j + 1) := by
                  have h1 := List.take_append_drop (j + 1) (stepsL f)
                  rw [HTK.out] at h1
                  simpa using h1.symm
                conv => lhs; rw [this]
                simp
              simp [not_nodup_of_mem hsplit hm])
            have HBR : Hid (Below w.heap.size w (wr.alloc (.cells #[.int .i64 e.1, .int .i64 e.2] 81))) := Lib.hid ((HB2.out.trans (HT.out.below (by have := HB2.out.size; omega) (fun x hx => by have := HBB.out; omega))).alloc (by have := HB2.out.size; have := HT.out.size; omega) _)
            clear hE hup HS3 HT3
            go_wp2_with fail
            go_ret
            exact ⟨retB HRT.out, HBR.out⟩
        · have e4 : j = 4 := by omega
          subst e4
          have hE : stepsTo fs k ++ (stepsL f).take 4 = stepsTo fs (k + 1) := by rw [HST.out, List.take_of_length_le (by rw [HLEN.out]; omega)]
          have HS3 : Hid (SeenAt wr B (4 * (k + 1)) (stepsTo fs (k + 1))) := Lib.hid (by rw [← hE, Nat.mul_succ]; exact HSE.out)
          have HN3 : Hid (stepsTo fs (k + 1)).Nodup := Lib.hid (by rw [← hE]; exact HNJ.out)
          have HB3 : Hid (Below w.heap.size w wr) := Lib.hid (HB2.out.trans (HT.out.below (by have := HB2.out.size; omega) (fun x hx => by have := HBB.out; omega)))
          clear hE HSE HNJ HT
          go_wp2
          go_roundw
          case rel => exact ⟨k + 1, by omega, by go_num, HS3.out, HN3.out, HB3.out⟩
          case measure => simp [intOf]; omega
    · have e : k = fs.length := by omega
      have HRT : Hid (false = R) := Lib.hid (by
        rw [HRR.out]
        have := HND.out
        rw [e, stepsTo_all] at this
        simp [this])
      clear e HSE HND
      go_wp2
      go_ret
      exact ⟨retB HRT.out, HB.out⟩

end Go.Proofs.YtdefhepagpgnaaaGreat
