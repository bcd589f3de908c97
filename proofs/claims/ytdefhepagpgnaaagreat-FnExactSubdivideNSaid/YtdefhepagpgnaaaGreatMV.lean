/- The contract of IsValidMesh in the program. -/
import Derived.Test.YtdefhepagpgnaaaGreatProg
import Derived.Test.YtdefhepagpgnaaaGreatInts
import Derived.Test.YtdefhepagpgnaaaGreatVbox
import Derived.Test.YtdefhepagpgnaaaGreatVec
import Derived.Test.YtdefhepagpgnaaaGreatHeld
import Derived.Test.YtdefhepagpgnaaaGreatMem
import Derived.Test.YtdefhepagpgnaaaGreatRowC
import Derived.Test.YtdefhepagpgnaaaGreatIntS
import Derived.Test.YtdefhepagpgnaaaGreatVecS
import Derived.Test.YtdefhepagpgnaaaGreatSS
import Derived.Test.YtdefhepagpgnaaaGreatMkA
import Derived.Test.YtdefhepagpgnaaaGreatMkB
import Derived.Test.YtdefhepagpgnaaaGreatMkC
import Derived.Test.YtdefhepagpgnaaaGreatMkD
import Derived.Test.YtdefhepagpgnaaaGreatMF
import Derived.Test.YtdefhepagpgnaaaGreatMG
import Derived.Test.YtdefhepagpgnaaaGreatMH
import Derived.Test.YtdefhepagpgnaaaGreatMM
import Derived.Test.YtdefhepagpgnaaaGreatMN
import Derived.WalkKit
import Derived.WalkSpells
import Derived.WalkLawsBesides
import Derived.Lib.Hide
import Derived.Deep.RegionHeld3
import Derived.Deep.QuietTactic
import Derived.BigQuiet
import Derived.Handy
import Derived.Deep.DeepCutAuto
import Derived.OwnWalk
import Derived.Maps.RangeWalk
import Derived.Maps.Ext
import Derived.Maps.OwnOps
import Derived.Maps.Views
import Derived.WideKeyEntry
import Derived.DeepKeys5
import Derived.ChangeKeysEq
import Derived.WalkArith
import Derived.OpenShut
namespace Go.Proofs.YtdefhepagpgnaaaGreat
open Go.RowKit Go.Maps


theorem okMesh_parts {vs : List V3} {fs : List (List Int)} (h1 : vs.length ≤ 80) (h2 : fs.length ≤ 64) (h3 : ∀ v ∈ vs, okV3 v = true) (h4 : ∀ f ∈ fs, okFace vs.length f = true) : okMesh vs fs = decide (fs.flatMap stepsL).Nodup := by
  unfold okMesh
  rw [List.all_eq_true.2 h3, List.all_eq_true.2 h4]
  simp [h1, h2]
theorem take_all_step {α : Type} {p : α → Prop} {l : List α} {k : Nat} (h : ∀ x ∈ l.take k, p x) (hk : k < l.length) (hp : p l[k]) : ∀ x ∈ l.take (k + 1), p x := by
  rw [List.take_succ_eq_append_getElem hk]
  intro x hx
  rcases List.mem_append.1 hx with hx | hx
  · exact h x hx
  · rw [List.mem_singleton] at hx
    rw [hx]; exact hp
set_option maxRecDepth 100000 in
set_option maxHeartbeats 4000000 in
theorem isValidMesh_any (A1 A2 : Option Addr) (c1 c2 : Nat) (vs : List V3) (fs : List (List Int)) (w : World) (hR : MeshIn w A1 A2 vs fs) (hf : MeshFits vs fs) :
    Calls Tryz.prog 24 #[mv A1 A2 vs.length c1 fs.length c2] w fun e w' => e = .returned (.bool (okMesh vs fs)) ∧ Below w.heap.size w w' := by
  obtain ⟨R, hRR⟩ : ∃ R, R = okMesh vs fs := ⟨_, rfl⟩
  rw [← hRR]
  have HRR := Lib.hid hRR
  have HV := Lib.hid hR.1
  have HFS := Lib.hid hR.2
  have HFI := Lib.hid hf
  have HT0 : Held w (w.alloc (.cells #[.slice A1 vs.length c1, .slice A2 fs.length c2] 29)) [(w.heap.size, [.slice A1 vs.length c1, .slice A2 fs.length c2])] := by
    have h := (Held.nil w).new #[.slice A1 vs.length c1, .slice A2 fs.length c2] 29
    simpa only [World.size_alloc] using h
  have HT := Lib.hid HT0
  clear hRR hR hf HT0
  by_cases h80 : vs.length ≤ 80
  · have hb80 : decide ((vs.length : Int) > 80) = false := by simp; omega
    by_cases h64 : fs.length ≤ 64
    · have hb64 : decide ((fs.length : Int) > 64) = false := by simp; omega
      go_enter Tryz.func24, Tryz.ntmps24
      go_wp2
      go_loopw [20] (fun i wr => ∃ k : Nat, k ≤ vs.length ∧ i = .int .i64 k ∧ (∀ v ∈ vs.take k, okV3 v = true) ∧ Held w wr [(w.heap.size, [.slice A1 vs.length c1, .slice A2 fs.length c2])]) (fun i _ => vs.length - (intOf i).toNat)
      case atStart => exact ⟨0, Nat.zero_le _, rfl, by simp, HT.out⟩
      case round =>
        obtain ⟨k, hk, rfl, hall, ht⟩ := hrel
        clear HT
        have HAL := Lib.hid hall
        have HT := Lib.hid ht
        clear hall ht
        by_cases hlt : k < vs.length
        · obtain ⟨b, o, rfl, hbl, hc⟩ := HV.out.at hlt
          obtain ⟨q0, q1, q2⟩ := vg_at hc
          have d0 := (HT.out.below.cell (p := ⟨b, o + k * 3, none⟩) hbl).trans q0
          have d1 := (HT.out.below.cell (p := ⟨b, o + k * 3 + 1, none⟩) hbl).trans q1
          have d2 := (HT.out.below.cell (p := ⟨b, o + k * 3 + 2, none⟩) hbl).trans q2
          have HST : Hid (okV3 vs[k] = true → ∀ v ∈ vs.take (k + 1), okV3 v = true) := Lib.hid fun h => take_all_step HAL.out hlt h
          have HNO : Hid (okV3 vs[k] = false → false = R) := Lib.hid fun h => by
            rw [HRR.out]
            exact (okMesh_no fun hh => by have := hh.2.2.1 _ (List.getElem_mem hlt); rw [h] at this; cases this).symm
          obtain ⟨v, hv⟩ : ∃ v, v = vs[k] := ⟨_, rfl⟩
          rw [← hv] at d0 d1 d2
          simp only [← hv] at HST HNO
          obtain ⟨x, y, z⟩ := v
          simp only at d0 d1 d2
          obtain ⟨q, hq⟩ : ∃ q, q = okB x y z := ⟨_, rfl⟩
          have HQ : Hid (okV3 (x, y, z) = q) := Lib.hid hq.symm
          have HC : ∀ W, Calls Tryz.prog 54 #[vec x y z] W fun e w' => e = .returned (.bool q) ∧ Below W.heap.size W w' := fun W => by rw [hq]; exact isValidVec_any x y z W
          have hlt' : (k : Int) < (vs.length : Int) := by omega
          have hge' : (0 : Int) ≤ (k : Int) := by omega
          clear hv hq q0 q1 q2 hc
          go_wp2_with fail
          refine (HC _).mono ?_
          rintro e w2 ⟨rfl, hb2⟩
          have HT2 := Lib.hid ((HT.out.alloc (.cells #[.int .i64 x, .int .i64 y, .int .i64 z] 43)).later hb2)
          clear hb2 HC HT d0 d1 d2
          cases q
          · have HF := Lib.hid (HNO.out HQ.out)
            go_wp2_with fail
            go_ret
            exact ⟨retB HF.out, HT2.out.below⟩
          · have HS := Lib.hid (HST.out HQ.out)
            clear HST HNO HAL
            go_wp2_with fail
            go_roundw
            case rel => exact ⟨k + 1, by omega, by go_num, HS.out, HT2.out⟩
            case measure => simp [intOf]; omega
        · have e : k = vs.length := by omega
          have HAV : Hid (∀ v ∈ vs, okV3 v = true) := Lib.hid (by have := HAL.out; rwa [e, List.take_length] at this)
          have f1 := (HT.out.box 0).c 1
          clear e HAL
          go_wp2
          go_loopw [31] (fun i wi => ∃ k : Nat, k ≤ fs.length ∧ i = .int .i64 k ∧ (∀ f ∈ fs.take k, okFace vs.length f = true) ∧ Held w wi [(w.heap.size, [.slice A1 vs.length c1, .slice A2 fs.length c2])]) (fun i _ => fs.length - (intOf i).toNat)
          case atStart => exact ⟨0, Nat.zero_le _, rfl, by simp, HT.out⟩
          case round =>
            clear f1 HT
            obtain ⟨j, hj, rfl, hall, ht⟩ := hrel
            have HAL := Lib.hid hall
            have HT := Lib.hid ht
            clear hall ht
            by_cases hjl : j < fs.length
            · obtain ⟨b, o, a, cc, rfl, hbl, hc, hle, hcm, hrow⟩ := HFS.out.at hjl
              have hc' := (HT.out.below.cell (p := ⟨b, o + j, none⟩) hbl).trans hc
              have hrow' := (hrow.below HT.out.below).more HT.out.size
              have HST : Hid (okFace vs.length fs[j] = true → ∀ f ∈ fs.take (j + 1), okFace vs.length f = true) := Lib.hid fun h => take_all_step HAL.out hjl h
              have HNO : Hid (okFace vs.length fs[j] = false → false = R) := Lib.hid fun h => by
                rw [HRR.out]
                exact (okMesh_no fun hh => by have := hh.2.2.2.1 _ (List.getElem_mem hjl); rw [h] at this; cases this).symm
              obtain ⟨f, hf⟩ : ∃ f, f = fs[j] := ⟨_, rfl⟩
              rw [← hf] at hc' hrow' hle
              simp only [← hf] at HST HNO
              have HC := isValidFace_any a cc vs.length f wr hrow' hle hcm
              obtain ⟨q, hq⟩ : ∃ q, q = okFace vs.length f := ⟨_, rfl⟩
              have HQ : Hid (okFace vs.length f = q) := Lib.hid hq.symm
              rw [← hq] at HC
              have f0 := (HT.out.box 0).c 0
              clear hf hq hc hrow hrow'
              go_wp2_with fail
              refine HC.mono ?_
              rintro e w2 ⟨rfl, rfl⟩
              clear HC f0 hc'
              cases q
              · have HF := Lib.hid (HNO.out HQ.out)
                go_wp2_with fail
                go_ret
                exact ⟨retB HF.out, HT.out.below⟩
              · have HS := Lib.hid (HST.out HQ.out)
                clear HST HNO HAL
                go_wp2_with fail
                go_roundw
                case rel => exact ⟨j + 1, by omega, by go_num, HS.out, HT.out⟩
                case measure => simp [intOf]; omega
            · have e : j = fs.length := by omega
              have HAF : Hid (∀ f ∈ fs, okFace vs.length f = true) := Lib.hid (by have := HAL.out; rwa [e, List.take_length] at this)
              have HRD := Lib.hid (okMesh_parts h80 h64 HAV.out HAF.out)
              have f1 := (HT.out.box 0).c 1
              have HC := repeats_any A2 c2 vs.length fs wr ((HFS.out.below HT.out.below).more HT.out.size) h64 (by omega) HAF.out
              obtain ⟨q, hq⟩ : ∃ q, q = (!decide (fs.flatMap stepsL).Nodup) := ⟨_, rfl⟩
              rw [← hq] at HC
              have HQ : Hid ((!q) = R) := Lib.hid (by rw [HRR.out, HRD.out, hq]; simp)
              clear hq e HAL
              go_wp2_with fail
              refine HC.mono ?_
              rintro e w2 ⟨rfl, hb2⟩
              have HT2 := Lib.hid (HT.out.later hb2)
              clear HC hb2 HT f1
              go_wp2_with fail
              go_ret
              exact ⟨retB HQ.out, HT2.out.below⟩
    · have hb64 : decide ((fs.length : Int) > 64) = true := by simp; omega
      have HF : Hid (false = R) := Lib.hid (by rw [HRR.out]; exact (okMesh_no fun hh => h64 hh.2.1).symm)
      clear h64
      go_enter Tryz.func24, Tryz.ntmps24
      go_wp2_with fail
      go_ret
      exact ⟨retB HF.out, HT.out.below⟩
  · have hb80 : decide ((vs.length : Int) > 80) = true := by simp; omega
    have HF : Hid (false = R) := Lib.hid (by rw [HRR.out]; exact (okMesh_no fun hh => h80 hh.1).symm)
    clear h80
    go_enter Tryz.func24, Tryz.ntmps24
    go_wp2_with fail
    go_ret
    exact ⟨retB HF.out, HT.out.below⟩

end Go.Proofs.YtdefhepagpgnaaaGreat
