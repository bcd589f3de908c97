/- Contracts of EdgePoint, in the program and in its model. -/
import Derived.Test.YtdefhepagpgnaaaGreatProg
import Derived.Test.YtdefhepagpgnaaaGreatInts
import Derived.Test.YtdefhepagpgnaaaGreatVbox
import Derived.Test.YtdefhepagpgnaaaGreatVec
import Derived.Test.YtdefhepagpgnaaaGreatHeld
import Derived.Test.YtdefhepagpgnaaaGreatMem
import Derived.Test.YtdefhepagpgnaaaGreatRowC
import Derived.Test.YtdefhepagpgnaaaGreatIntS
import Derived.Test.YtdefhepagpgnaaaGreatVecS
import Derived.Test.YtdefhepagpgnaaaGreatSS
import Derived.Test.YtdefhepagpgnaaaGreatMkA
import Derived.Test.YtdefhepagpgnaaaGreatMkB
import Derived.Test.YtdefhepagpgnaaaGreatMkC
import Derived.Test.YtdefhepagpgnaaaGreatMkD
import Derived.Test.YtdefhepagpgnaaaGreatMF
import Derived.Test.YtdefhepagpgnaaaGreatMG
import Derived.Test.YtdefhepagpgnaaaGreatMH
import Derived.Test.YtdefhepagpgnaaaGreatKp
import Derived.Test.YtdefhepagpgnaaaGreatKb
import Derived.Test.YtdefhepagpgnaaaGreatKc
import Derived.Test.YtdefhepagpgnaaaGreatKs
import Derived.Test.YtdefhepagpgnaaaGreatMEF
import Derived.Test.YtdefhepagpgnaaaGreatKa
import Derived.Test.YtdefhepagpgnaaaGreatKt
import Derived.WalkKit
import Derived.WalkSpells
import Derived.WalkLawsBesides
import Derived.Lib.Hide
import Derived.Deep.RegionHeld3
import Derived.Deep.QuietTactic
import Derived.BigQuiet
import Derived.Handy
import Derived.Deep.DeepCutAuto
import Derived.OwnWalk
import Derived.Deep.AppendLies
namespace Go.Proofs.YtdefhepagpgnaaaGreat
open Go.RowKit

set_option maxRecDepth 100000 in
set_option maxHeartbeats 16000000 in
theorem edgePoint_any (A1 A2 : Option Addr) (c1 c2 : Nat) (vs : List V3) (fs : List (List Int)) (x y : Int) (w : World) (hR : MeshIn w A1 A2 vs fs) (hf : MeshFits vs fs) (hx : wfI x) (hy : wfI y) :
    Calls Tryz.prog 27 #[mv A1 A2 vs.length c1 fs.length c2, .int .i64 x, .int .i64 y] w (VecOut (epL vs fs x y).1 (epL vs fs x y).2.1 (epL vs fs x y).2.2 w) := by
  have HWX := Lib.hid hx
  have HWY := Lib.hid hy
  clear hx hy
  have HIN := Lib.hid hR
  have HF := Lib.hid hf
  have HT0 : Held w ((w.alloc (.cells #[.slice A1 vs.length c1, .slice A2 fs.length c2] 29)).alloc (.cells #[.int .i64 0, .int .i64 0, .int .i64 0] 43)) [(w.heap.size + 1, [.int .i64 0, .int .i64 0, .int .i64 0]), (w.heap.size, [.slice A1 vs.length c1, .slice A2 fs.length c2])] := by
    have h := ((Held.nil w).new #[.slice A1 vs.length c1, .slice A2 fs.length c2] 29).new #[.int .i64 0, .int .i64 0, .int .i64 0] 43
    simpa only [World.size_alloc] using h
  have HI : ∀ {bs : List (Nat × List Value)} (W : World), Held w W bs → MeshIn W A1 A2 vs fs := fun W h => ⟨(HIN.out.1.below h.below).more h.size, (HIN.out.2.below h.below).more h.size⟩
  have HT := Lib.hid HT0
  clear hR hf HT0
  obtain ⟨on, hon⟩ : ∃ on, on = onE vs fs x y := ⟨_, rfl⟩
  have HON := Lib.hid hon
  have HLN : Hid (on.length ≤ 2 ∧ (on ≠ [] → okMesh vs fs = true ∧ (0 ≤ x ∧ x < vs.length) ∧ (0 ≤ y ∧ y < vs.length)) ∧ ∀ i ∈ on, 0 ≤ i ∧ i < fs.length) := Lib.hid (by
    rw [hon]
    refine ⟨?_, onE_in, fun i hi => onE_mem hi⟩
    by_cases h : onE vs fs x y = []
    · rw [h]; exact Nat.zero_le _
    · exact atE_two (onE_in h).1 _)
  have HC := edgeFaces_any A1 A2 c1 c2 vs fs x y _ (HI _ HT.out) HF.out HWX.out HWY.out
  rw [show atE (tabL vs fs) (und (x, y)) = on from hon.symm] at HC
  clear hon
  have c0' := (HT.out.box 1).c 0
  have c1' := (HT.out.box 1).c 1
  go_enter Tryz.func27, Tryz.ntmps27
  go_wp2_with fail
  refine HC.mono ?_
  rintro e w1 ⟨A5, c5, rfl, ho1, hb1⟩
  have HT1 := Lib.hid (HT.out.later hb1)
  have HRO := Lib.hid (Row.of_own ho1)
  clear hb1 HT c0' c1' HC ho1
  have r0 := (HT1.out.box 0).c 0
  have g0 := (HT1.out.box 0).f 0
  have r1 := (HT1.out.box 0).c 1
  have g1 := (HT1.out.box 0).f 1
  have r2 := (HT1.out.box 0).c 2
  have g2 := (HT1.out.box 0).f 2
  have c0' := (HT1.out.box 1).c 0
  have c1' := (HT1.out.box 1).c 1
  by_cases hn : on = []
  · have HE : Hid (epL vs fs x y = (0, 0, 0)) := Lib.hid (by unfold epL; rw [← HON.out, if_pos hn])
    have hl0 : on.length = 0 := by rw [hn]; rfl
    rw [hl0]
    clear hn hl0
    go_wp2_with fail
    exact bodyPost_ret (v := vec 0 0 0) (by simp [results, Tryz.results27, go_sem, r0, r1, r2]) rfl ⟨by rw [HE.out], bset3 HT1.out.below (by omega)⟩
  · obtain ⟨hok, hxi, hyi⟩ := HLN.out.2.1 hn
    have HOK := Lib.hid hok
    have hz1 : w.heap.size + 1 < w1.heap.size := (HT1.out.box 0).lt
    have hl0 : 0 < on.length := List.length_pos_iff.2 hn
    have hl0' : ¬ ((on.length : Int) = 0) := by omega
    have hl0'' : ¬ (on.length = 0) := by omega
    have HE : Hid (epL vs fs x y = avgL (ones ([gV vs x, gV vs y] ++ if on.length = 2 then on.map (fpI vs fs) else []))) := Lib.hid (by unfold epL; rw [← HON.out, if_neg hn])
    have HV := Lib.hid (ok_vec hok)
    have HVI := Lib.hid (fun i => gV_in HV.out i)
    have HBX := Lib.hid (HT1.out.alloc (.cells #[.int .i64 x, .int .i64 y] 3))
    have HVA : Calls Tryz.prog 63 #[mv A1 A2 vs.length c1 fs.length c2, .slice (some ⟨w1.heap.size, 0, none⟩) 2 2] (w1.alloc (.cells #[.int .i64 x, .int .i64 y] 3)) (VsOut _ [gV vs x, gV vs y]) :=
      verticesAt_any A1 A2 c1 c2 vs fs (some ⟨w1.heap.size, 0, none⟩) 2 [x, y] _ (HI _ HBX.out) HF.out ((Mbox.new w1 #[.int .i64 x, .int .i64 y] 3).row (xs := [x, y]) (by simp)) (by simp) (fun z hz => by simp only [List.mem_cons, List.not_mem_nil, or_false] at hz; rcases hz with rfl | rfl <;> assumption)
    clear hn hok r0 r1 r2 g0 g1 g2
    go_wp2_with fail
    refine HVA.mono ?_
    rintro e w2 hv2
    obtain ⟨bp, op, cp, rfl, ho2, hr2, hb2⟩ := hv2.some (by simp)
    have HT2 := Lib.hid (HBX.out.later hb2)
    have HO2 := Lib.hid ho2
    have HR2 := Lib.hid hr2
    have HRO2 := Lib.hid ((HRO.out.later (w' := w1.alloc (.cells #[.int .i64 x, .int .i64 y] 3)) (by go_grown)).later hb2)
    have hz2 : w1.heap.size < w2.heap.size := by have := hb2.size; simp at this; omega
    simp only [List.length_cons, List.length_nil, Nat.zero_add, Nat.reduceAdd] at HO2 ⊢
    clear hb2 hv2 ho2 hr2 HVA HBX HRO HT1
    have c0' := (HT2.out.box 1).c 0
    have c1' := (HT2.out.box 1).c 1
    by_cases h2 : on.length = 2
    · have h2' : (on.length : Int) = 2 := by omega
      have HFP := facePoints_any A1 A2 c1 c2 vs fs A5 c5 on w2 (HI _ HT2.out) HF.out HOK.out HRO2.out (by omega) HLN.out.2.2
      rw [h2] at HFP
      rw [if_pos h2] at HE
      obtain ⟨l1, hl1⟩ : ∃ l, l = on.map (fpI vs fs) := ⟨_, rfl⟩
      have HL1 : Hid (l1.length = 2 ∧ ∀ v ∈ l1, InV 1000000 v) := Lib.hid ⟨by rw [hl1, List.length_map, h2], fun v hv => by rw [hl1] at hv; obtain ⟨i, hi, rfl⟩ := List.mem_map.1 hv; exact fpI_in HOK.out (HLN.out.2.2 i hi).1 (HLN.out.2.2 i hi).2⟩
      rw [← hl1] at HE HFP
      clear hl1
      go_wp2_with fail
      refine HFP.mono ?_
      rintro e w3 hv3
      obtain ⟨bq, oq, cq, rfl, _, hr3, hb3⟩ := hv3.some (by have := HL1.out.1; omega)
      have HT3 := Lib.hid (HT2.out.later hb3)
      have HO3 := Lib.hid (own_keep' HO2.out hb3)
      have HR3 := Lib.hid hr3
      have hz3 : w1.heap.size < w3.heap.size := Nat.lt_of_lt_of_le hz2 hb3.size
      clear hb3 hv3 hr3 HFP HO2 HT2 HR2 HRO2 c0' c1'
      rw [HL1.out.1]
      go_wp2_with (at_builtin; refine wpList_appV w3 rfl _ _ 27 rfl (w1.alloc (.cells #[.int .i64 x, .int .i64 y] 3)).heap.size 43 (vec 0 0 0) 24 Tryz.underlying27 infoVec rfl _ 2 _ (by rfl) HO3.out bq oq 2 cq _ l1 (by rfl) HL1.out.1 HR3.out (by unfold maxLen; omega) (by omega) (by simp; omega) ?_)
      intro v8 w8 ho8 hg8
      have hgb : ∀ q, (Value.slice (some ⟨bp, op, none⟩) 2 cp).ownBlock = some q → w1.heap.size + 1 ≤ q := fun q hq => by have := own_block HO3.out q hq; simpa using this
      have HT8 := Lib.hid (heldGrown' HT3.out hg8 (fun q hq => by have h1 := hgb q hq; omega) (fun p hp c => by
        have h1 := hgb _ c.symm
        simp only [List.mem_cons, List.not_mem_nil, or_false] at hp
        rcases hp with rfl | rfl <;> simp at h1 <;> omega))
      obtain ⟨A8, c8, rfl⟩ := own_shape ho8
      have hfl : vg (gV vs x) ++ (vg (gV vs y) ++ l1.flatMap vg) = ([gV vs x, gV vs y] ++ l1).flatMap vg := rfl
      rw [hfl] at ho8
      have HLL : Hid (([gV vs x, gV vs y] ++ l1).length = 4 ∧ ∀ v ∈ [gV vs x, gV vs y] ++ l1, InV 1000000 v) := Lib.hid ⟨by rw [List.length_append, HL1.out.1]; rfl, fun v hv => by
        rcases List.mem_append.1 hv with h | h
        · simp only [List.mem_cons, List.not_mem_nil, or_false] at h; rcases h with rfl | rfl <;> exact HVI.out _
        · exact HL1.out.2 v h⟩
      obtain ⟨l, hl⟩ : ∃ l, l = [gV vs x, gV vs y] ++ l1 := ⟨_, rfl⟩
      rw [← hl] at ho8 HLL HE
      have HR8 := Lib.hid (RowC.of_own vg_len ho8 HLL.out.1)
      have HAV := average0 A8 c8 l w8 HR8.out (by have := HLL.out.1; omega) HLL.out.2
      rw [HLL.out.1] at HAV
      clear hl hfl ho8 hg8 hgb HO3 HT3 HR3
      go_wp2_with fail
      refine HAV.mono ?_
      rintro e w9 ⟨rfl, hb9⟩
      have HT9 := Lib.hid (HT8.out.later hb9)
      clear hb9 HT8 HAV
      have r0 := (HT9.out.box 0).c 0
      have g0 := (HT9.out.box 0).f 0
      have r1 := (HT9.out.box 0).c 1
      have g1 := (HT9.out.box 0).f 1
      have r2 := (HT9.out.box 0).c 2
      have g2 := (HT9.out.box 0).f 2
      have c0' := (HT9.out.box 1).c 0
      have c1' := (HT9.out.box 1).c 1
      go_wp2_with fail
      exact bodyPost_ret (v := vec (avgL (ones l)).1 (avgL (ones l)).2.1 (avgL (ones l)).2.2) (by simp [results, Tryz.results27, go_sem, r0, r1, r2]) rfl ⟨by rw [HE.out], bset3 HT9.out.below (by omega)⟩
    · have h2' : ¬ ((on.length : Int) = 2) := by omega
      rw [if_neg h2, List.append_nil] at HE
      have HAV : Calls Tryz.prog 62 #[.slice (some ⟨bp, op, none⟩) 2 cp, .slice none 0 0] w2 (VecOut _ _ _ w2) := average0 (some ⟨bp, op, none⟩) cp [gV vs x, gV vs y] w2 HR2.out (by simp) (fun v h => by simp only [List.mem_cons, List.not_mem_nil, or_false] at h; rcases h with rfl | rfl <;> exact HVI.out _)
      obtain ⟨l, hl⟩ : ∃ l, l = [gV vs x, gV vs y] := ⟨_, rfl⟩
      rw [← hl] at HAV HE
      clear hl
      go_wp2_with fail
      refine HAV.mono ?_
      rintro e w9 ⟨rfl, hb9⟩
      have HT9 := Lib.hid (HT2.out.later hb9)
      clear hb9 HT2 HAV c0' c1'
      have r0 := (HT9.out.box 0).c 0
      have g0 := (HT9.out.box 0).f 0
      have r1 := (HT9.out.box 0).c 1
      have g1 := (HT9.out.box 0).f 1
      have r2 := (HT9.out.box 0).c 2
      have g2 := (HT9.out.box 0).f 2
      have c0' := (HT9.out.box 1).c 0
      have c1' := (HT9.out.box 1).c 1
      go_wp2_with fail
      exact bodyPost_ret (v := vec (avgL (ones l)).1 (avgL (ones l)).2.1 (avgL (ones l)).2.2) (by simp [results, Tryz.results27, go_sem, r0, r1, r2]) rfl ⟨by rw [HE.out], bset3 HT9.out.below (by omega)⟩

theorem made_two (w : World) (a b : V3) : (w.alloc (.cells #[.int .i64 a.1, .int .i64 a.2.1, .int .i64 a.2.2, .int .i64 b.1, .int .i64 b.2.1, .int .i64 b.2.2] 43)).ownsRow w.heap.size 43 3 (.slice (some ⟨w.heap.size, 0, none⟩) 2 2) 2 ([a, b].flatMap vg) := World.ownsRow_lit w #[.int .i64 a.1, .int .i64 a.2.1, .int .i64 a.2.2, .int .i64 b.1, .int .i64 b.2.1, .int .i64 b.2.2] 2 (Nat.le_refl _) (by unfold maxLen; omega) rfl
theorem two_of {α : Type} : ∀ {l : List α}, l.length = 2 → ∃ a b, l = [a, b]
  | [a, b], _ => ⟨a, b, rfl⟩
theorem avg_ones (l : List V3) : avgL (ones l) = divV l.length (sumV l) := by unfold avgL; rw [wtot_ones, wsum_ones]
set_option maxRecDepth 100000 in
set_option maxHeartbeats 16000000 in
theorem sEdgePoint_any (A1 A2 : Option Addr) (c1 c2 : Nat) (vs : List V3) (fs : List (List Int)) (x y : Int) (w : World) (hR : MeshIn w A1 A2 vs fs) (hf : MeshFits vs fs) :
    Calls Tryz.prog 19 #[mv A1 A2 vs.length c1 fs.length c2, .int .i64 x, .int .i64 y] w (VecOut (epL vs fs x y).1 (epL vs fs x y).2.1 (epL vs fs x y).2.2 w) := by
  have HIN := Lib.hid hR
  have HF := Lib.hid hf
  have HT0 : Held w ((w.alloc (.cells #[.slice A1 vs.length c1, .slice A2 fs.length c2] 29)).alloc (.cells #[.int .i64 0, .int .i64 0, .int .i64 0] 43)) [(w.heap.size + 1, [.int .i64 0, .int .i64 0, .int .i64 0]), (w.heap.size, [.slice A1 vs.length c1, .slice A2 fs.length c2])] := by
    have h := ((Held.nil w).new #[.slice A1 vs.length c1, .slice A2 fs.length c2] 29).new #[.int .i64 0, .int .i64 0, .int .i64 0] 43
    simpa only [World.size_alloc] using h
  have HI : ∀ {bs : List (Nat × List Value)} (W : World), Held w W bs → MeshIn W A1 A2 vs fs := fun W h => ⟨(HIN.out.1.below h.below).more h.size, (HIN.out.2.below h.below).more h.size⟩
  have HT := Lib.hid HT0
  clear hR hf HT0
  obtain ⟨on, hon⟩ : ∃ on, on = onE vs fs x y := ⟨_, rfl⟩
  have HON := Lib.hid hon
  have HLN : Hid (on.length ≤ 2 ∧ (on ≠ [] → okMesh vs fs = true ∧ (0 ≤ x ∧ x < vs.length) ∧ (0 ≤ y ∧ y < vs.length)) ∧ ∀ i ∈ on, 0 ≤ i ∧ i < fs.length) := Lib.hid (by
    rw [hon]
    refine ⟨?_, onE_in, fun i hi => onE_mem hi⟩
    by_cases h : onE vs fs x y = []
    · rw [h]; exact Nat.zero_le _
    · exact atE_two (onE_in h).1 _)
  have HC := sEdgeFaces_any A1 A2 c1 c2 vs fs x y _ (HI _ HT.out) HF.out
  rw [show atE (tabL vs fs) (und (x, y)) = on from hon.symm] at HC
  clear hon
  have c0' := (HT.out.box 1).c 0
  have c1' := (HT.out.box 1).c 1
  go_enter Tryz.func19, Tryz.ntmps19
  go_wp2_with fail
  refine HC.mono ?_
  rintro e w1 ⟨A5, c5, rfl, ho1, hb1⟩
  have HT1 := Lib.hid (HT.out.later hb1)
  have HRO := Lib.hid (Row.of_own ho1)
  clear hb1 HT c0' c1' HC ho1
  have r0 := (HT1.out.box 0).c 0
  have g0 := (HT1.out.box 0).f 0
  have r1 := (HT1.out.box 0).c 1
  have g1 := (HT1.out.box 0).f 1
  have r2 := (HT1.out.box 0).c 2
  have g2 := (HT1.out.box 0).f 2
  have c0' := (HT1.out.box 1).c 0
  have c1' := (HT1.out.box 1).c 1
  by_cases hn : on = []
  · have HE : Hid (epL vs fs x y = (0, 0, 0)) := Lib.hid (by unfold epL; rw [← HON.out, if_pos hn])
    have hl0 : on.length = 0 := by rw [hn]; rfl
    rw [hl0]
    clear hn hl0
    go_wp2_with fail
    exact bodyPost_ret (v := vec 0 0 0) (by simp [results, Tryz.results19, go_sem, r0, r1, r2]) rfl ⟨by rw [HE.out], bset3 HT1.out.below (by omega)⟩
  · obtain ⟨hok, hxi, hyi⟩ := HLN.out.2.1 hn
    have HOK := Lib.hid hok
    have hz1 : w.heap.size + 1 < w1.heap.size := (HT1.out.box 0).lt
    have hl0 : 0 < on.length := List.length_pos_iff.2 hn
    have hl0' : ¬ ((on.length : Int) = 0) := by omega
    have hl0'' : ¬ (on.length = 0) := by omega
    have HE : Hid (epL vs fs x y = avgL (ones ([gV vs x, gV vs y] ++ if on.length = 2 then on.map (fpI vs fs) else []))) := Lib.hid (by unfold epL; rw [← HON.out, if_neg hn])
    have HVI := Lib.hid (fun i => gV_in (ok_vec hok) i)
    clear HON
    obtain ⟨i0, rfl⟩ : ∃ n : Nat, x = (n : Int) := ⟨x.toNat, by omega⟩
    obtain ⟨i1, rfl⟩ : ∃ n : Nat, y = (n : Int) := ⟨y.toNat, by omega⟩
    have l0 : i0 < vs.length := by omega
    have l1 : i1 < vs.length := by omega
    have HVI0 := HVI.out (i0 : Int)
    have HVI1 := HVI.out (i1 : Int)
    obtain ⟨bv, ov, p, rfl, hbv, e0, v00, v01, v02⟩ := HIN.out.1.vecK l0
    obtain ⟨_, _, q, ea, _, e1, v10, v11, v12⟩ := HIN.out.1.vecK l1
    simp only [Option.some.injEq, Addr.mk.injEq, and_true] at ea
    obtain ⟨rfl, rfl⟩ := ea
    rw [gV_nat _ _ l0, e0] at HE HVI0
    rw [gV_nat _ _ l1, e1] at HE HVI1
    have HPQ := Lib.hid (And.intro HVI0 HVI1)
    have p0 : (0 : Int) ≤ (i0 : Int) := by omega
    have q0 : (i0 : Int) < (vs.length : Int) := by omega
    have p1 : (0 : Int) ≤ (i1 : Int) := by omega
    have q1 : (i1 : Int) < (vs.length : Int) := by omega
    have HCA := Lib.hid (And.intro v00 (And.intro v01 (And.intro v02 (And.intro v10 (And.intro v11 v12)))))
    have HCC : ∀ W, Below w1.heap.size w1 W → (W.cell? ⟨w.heap.size, 0, none⟩ = some (.slice (some ⟨bv, ov, none⟩) vs.length c1) ∧ W.cell? ⟨bv, ov + i0 * 3, none⟩ = some (.int .i64 p.1) ∧ W.cell? ⟨bv, ov + i0 * 3 + 1, none⟩ = some (.int .i64 p.2.1) ∧ W.cell? ⟨bv, ov + i0 * 3 + 2, none⟩ = some (.int .i64 p.2.2) ∧ W.cell? ⟨bv, ov + i1 * 3, none⟩ = some (.int .i64 q.1) ∧ W.cell? ⟨bv, ov + i1 * 3 + 1, none⟩ = some (.int .i64 q.2.1) ∧ W.cell? ⟨bv, ov + i1 * 3 + 2, none⟩ = some (.int .i64 q.2.2)) := fun W h => by
      have hB := HT1.out.below.trans (h.mono HT1.out.size)
      exact ⟨(h.cell (p := ⟨w.heap.size, 0, none⟩) (by show w.heap.size < _; omega)).trans ((HT1.out.box 1).c 0), (hB.cell (p := ⟨bv, ov + i0 * 3, none⟩) hbv).trans HCA.out.1, (hB.cell (p := ⟨bv, ov + i0 * 3 + 1, none⟩) hbv).trans HCA.out.2.1, (hB.cell (p := ⟨bv, ov + i0 * 3 + 2, none⟩) hbv).trans HCA.out.2.2.1, (hB.cell (p := ⟨bv, ov + i1 * 3, none⟩) hbv).trans HCA.out.2.2.2.1, (hB.cell (p := ⟨bv, ov + i1 * 3 + 1, none⟩) hbv).trans HCA.out.2.2.2.2.1, (hB.cell (p := ⟨bv, ov + i1 * 3 + 2, none⟩) hbv).trans HCA.out.2.2.2.2.2⟩
    clear hn hok r0 r1 r2 g0 g1 g2 v00 v01 v02 v10 v11 v12 e0 e1 HVI0 HVI1
    go_upto_region 4 with fail
    go_cut [8] (fun z wx => ∃ g, z = .slice (some ⟨g, 0, none⟩) 2 2 ∧ wx.ownsRow w1.heap.size 43 3 z 2 ([p, q].flatMap vg) ∧ Below w1.heap.size w1 wx)
    case first =>
      clear HT1 HRO HI
      go_region_held3 (fun W => (W.cell? ⟨w.heap.size, 0, none⟩ = some (.slice (some ⟨bv, ov, none⟩) vs.length c1) ∧ W.cell? ⟨bv, ov + i0 * 3, none⟩ = some (.int .i64 p.1) ∧ W.cell? ⟨bv, ov + i0 * 3 + 1, none⟩ = some (.int .i64 p.2.1) ∧ W.cell? ⟨bv, ov + i0 * 3 + 2, none⟩ = some (.int .i64 p.2.2) ∧ W.cell? ⟨bv, ov + i1 * 3, none⟩ = some (.int .i64 q.1) ∧ W.cell? ⟨bv, ov + i1 * 3 + 1, none⟩ = some (.int .i64 q.2.1) ∧ W.cell? ⟨bv, ov + i1 * 3 + 2, none⟩ = some (.int .i64 q.2.2)))
        (exact HCC _ (by go_grown))
        (fail)
      all_goals (go_wp2_with fail; go_meet)
      all_goals first | exact ⟨_, rfl, made_two _ _ _, by go_grown⟩ | exact ⟨_, rfl, (made_two _ _ _).drew, by go_grown⟩
    case rest =>
      obtain ⟨gp, rfl, ho2, hb2⟩ := hcut
      have ht2 := HT1.out.later hb2
      have HT2 := Lib.hid ht2
      have HO2 := Lib.hid ho2
      have HRO2 := Lib.hid (HRO.out.below hb2)
      have hz2 : w1.heap.size ≤ wc.heap.size := hb2.size
      clear hb2 ho2 HRO HT1 ht2 HCC HCA
      by_cases h2 : on.length = 2
      · obtain ⟨j0, j1, rfl⟩ : ∃ j0 j1, on = [j0, j1] := two_of h2
        rw [if_pos (show [j0, j1].length = 2 from rfl)] at HE
        have HJ0 := HLN.out.2.2 j0 (by simp)
        have HJ1 := HLN.out.2.2 j1 (by simp)
        have hj0 : fpL vs fs j0 = fpI vs fs j0 := by unfold fpL; rw [if_pos ⟨HOK.out, HJ0.1, HJ0.2⟩]
        have hj1 : fpL vs fs j1 = fpI vs fs j1 := by unfold fpL; rw [if_pos ⟨HOK.out, HJ1.1, HJ1.2⟩]
        have HF0 : Hid (InV 1000000 (fpL vs fs j0) ∧ InV 1000000 (fpL vs fs j1)) := Lib.hid ⟨by rw [hj0]; exact fpI_in HOK.out HJ0.1 HJ0.2, by rw [hj1]; exact fpI_in HOK.out HJ1.1 HJ1.2⟩
        simp only [List.map_cons, List.map_nil, ← hj0, ← hj1] at HE
        have HFA := Lib.hid (fun (j : Int) (W : World) (h : MeshIn W (some ⟨bv, ov, none⟩) A2 vs fs) => sFacePoint_any (some ⟨bv, ov, none⟩) A2 c1 c2 vs fs j W h HF.out)
        obtain ⟨b5, o5, e5, hb5, hcj0⟩ := HRO2.out.at (k := 0) (by simp)
        obtain ⟨_, _, e6, _, hcj1⟩ := HRO2.out.at (k := 1) (by simp)
        subst e5
        simp only [Option.some.injEq, Addr.mk.injEq, and_true] at e6
        obtain ⟨rfl, rfl⟩ := e6
        simp only [List.getElem_cons_zero, List.getElem_cons_succ, Nat.add_zero] at hcj0 hcj1
        have HCJ := Lib.hid (And.intro hcj0 hcj1)
        have hb5w : b5 < w1.heap.size := hb5
        have HC : ∀ W, Below w1.heap.size wc W → (W.cell? ⟨w.heap.size, 0, none⟩ = some (.slice (some ⟨bv, ov, none⟩) vs.length c1) ∧ W.cell? ⟨w.heap.size, 1, none⟩ = some (.slice A2 fs.length c2) ∧ W.cell? ⟨b5, o5, none⟩ = some (.int .i64 j0) ∧ W.cell? ⟨b5, o5 + 1, none⟩ = some (.int .i64 j1)) := fun W h => ⟨(h.cell (p := ⟨w.heap.size, 0, none⟩) (by show w.heap.size < _; omega)).trans ((HT2.out.box 1).c 0), (h.cell (p := ⟨w.heap.size, 1, none⟩) (by show w.heap.size < _; omega)).trans ((HT2.out.box 1).c 1), (h.cell (p := ⟨b5, o5, none⟩) hb5w).trans HCJ.out.1, (h.cell (p := ⟨b5, o5 + 1, none⟩) hb5w).trans HCJ.out.2⟩
        have HQ := HT2.out
        have HB : Below w1.heap.size wc wc := Below.refl _ _
        obtain ⟨i9, hi9, hz90, hz91, hz92⟩ := info_parts infoVec
        have HO := HO2.out
        have hop : ∀ q, (Value.slice (some ⟨gp, 0, none⟩) 2 2).ownBlock = some q → w1.heap.size ≤ q := own_block HO
        clear hj0 hj1 HJ0 HJ1 hcj0 hcj1
        go_upto_region 6 with fail
        go_cut [8] (fun z wx => ∃ g c, z = .slice (some ⟨g, 0, none⟩) 4 c ∧ wx.ownsRow w1.heap.size 43 3 z 4 ([p, q, fpL vs fs j0, fpL vs fs j1].flatMap vg) ∧ Held w wx [(w.heap.size + 1, [.int .i64 0, .int .i64 0, .int .i64 0]), (w.heap.size, [.slice (some ⟨bv, ov, none⟩) vs.length c1, .slice A2 fs.length c2])])
        case first =>
          clear HT2 HRO2 HE
          go_region_held3 (fun W => (W.cell? ⟨w.heap.size, 0, none⟩ = some (.slice (some ⟨bv, ov, none⟩) vs.length c1) ∧ W.cell? ⟨w.heap.size, 1, none⟩ = some (.slice A2 fs.length c2) ∧ W.cell? ⟨b5, o5, none⟩ = some (.int .i64 j0) ∧ W.cell? ⟨b5, o5 + 1, none⟩ = some (.int .i64 j1)))
            (first | exact HC _ (below_own (HB.alloc (Nat.le_trans hz2 HB.size) _) hgrow (by have := HB.size; simp; omega) hop) | (with_reducible exact HC _ HB) | (with_reducible exact HC _ HB.drew) | (with_reducible exact HC _ (HB.alloc (Nat.le_trans hz2 HB.size) _)) | (with_reducible exact HC _ (HB.alloc (Nat.le_trans hz2 HB.size) _).drew))
            (first | (go_at_call 20; refine (HFA.out _ _ (by first | with_reducible exact HI _ HQ | with_reducible exact HI _ HQ.drew)).mono ?_; rintro e w6 ⟨rfl, hb1⟩; (first | (have HO := own_keep' HO hb1) | (have HO := own_keep' HO.drew hb1)); (first | (have HQ := HQ.later hb1) | (have HQ := HQ.drew.later hb1)); (first | (have HB := HB.trans (hb1.mono (Nat.le_trans hz2 HB.size))) | (have HB := HB.drew.trans (hb1.mono (Nat.le_trans hz2 HB.size))))) | (refine step_append_lies _ (by rfl) _ _ _ (by rfl) w1.heap.size 43 i9 _ 3 24 Tryz.underlying27 hi9 hz90 hz91 hz92 rfl (by omega) (.slice (some ⟨gp, 0, none⟩) 2 2) 2 _ (by rfl) (by first | with_reducible exact HO.alloc _ | with_reducible exact (HO.alloc _).drew) ⟨_, 0, none⟩ 2 2 [.int .i64 (fpL vs fs j0).1, .int .i64 (fpL vs fs j0).2.1, .int .i64 (fpL vs fs j0).2.2, .int .i64 (fpL vs fs j1).1, .int .i64 (fpL vs fs j1).2.1, .int .i64 (fpL vs fs j1).2.2] (by rfl) (by rfl) (World.news_of_block (cs := #[.int .i64 (fpL vs fs j0).1, .int .i64 (fpL vs fs j0).2.1, .int .i64 (fpL vs fs j0).2.2, .int .i64 (fpL vs fs j1).1, .int .i64 (fpL vs fs j1).2.1, .int .i64 (fpL vs fs j1).2.2]) (t := 43) (fr := (0, 0)) (heap_alloc_new _ _)) (by simp [Value.oneCell']) (by omega) (by unfold maxLen; omega) (by omega) (by have := HB.size; simp; omega) _ rfl ?_; intro gg cap w5 hown5 hgrow hat hlt5))
          all_goals (go_wp2_with fail; go_meet)
          all_goals exact ⟨gg, cap, rfl, hown5, heldGrown' (HQ.alloc _) hgrow (fun q hq => by have := hop q hq; omega) (fun p hp c => by
            have h1 := hop _ c.symm
            simp only [List.mem_cons, List.not_mem_nil, or_false] at hp
            rcases hp with rfl | rfl <;> simp at h1 <;> omega)⟩
        case rest =>
          obtain ⟨g8, c8, rfl, ho8, ht8⟩ := hcut
          have HT8 := Lib.hid ht8
          have HLL : Hid (([p, q, fpL vs fs j0, fpL vs fs j1]).length = 4 ∧ ∀ v ∈ [p, q, fpL vs fs j0, fpL vs fs j1], InV 1000000 v) := Lib.hid ⟨rfl, fun v hv => by
            simp only [List.mem_cons, List.not_mem_nil, or_false] at hv
            rcases hv with rfl | rfl | rfl | rfl
            · exact HPQ.out.1
            · exact HPQ.out.2
            · exact HF0.out.1
            · exact HF0.out.2⟩
          have HE2 : Hid (epL vs fs i0 i1 = avgL (ones [p, q, fpL vs fs j0, fpL vs fs j1])) := HE
          obtain ⟨l, hl⟩ : ∃ l, l = [p, q, fpL vs fs j0, fpL vs fs j1] := ⟨_, rfl⟩
          rw [← hl] at ho8 HLL HE2
          rw [avg_ones, HLL.out.1] at HE2
          have HSM := sSum_any (some ⟨g8, 0, none⟩) c8 l _ (RowC.of_own vg_len ho8 HLL.out.1) (by have := HLL.out.1; omega) (fun v hv => (HLL.out.2 v hv).mono (by decide))
          rw [HLL.out.1] at HSM
          have HSB := Lib.hid ((sumV_bd (m := 1000000) (by decide) HLL.out.2).mono (n := 8192000000000) (by rw [HLL.out.1]; decide))
          obtain ⟨s, hs⟩ : ∃ s, s = sumV l := ⟨_, rfl⟩
          rw [← hs] at HSM HSB HE2
          clear hl hs ho8 ht8 HE HC HQ HB HO hop HFA HT2 HRO2
          go_wp2_with fail
          refine HSM.mono ?_
          rintro e w9 ⟨rfl, hb9⟩
          have HT9 := Lib.hid (HT8.out.later hb9)
          clear hb9 HSM HT8
          go_wp2_with fail
          refine (sBy_any s 4 _ HSB.out).mono ?_
          rintro e w10 ⟨rfl, hb10⟩
          have HT10 := Lib.hid (HT9.out.later hb10)
          clear hb10 HT9
          have r0 := (HT10.out.box 0).c 0
          have g0 := (HT10.out.box 0).f 0
          have r1 := (HT10.out.box 0).c 1
          have g1 := (HT10.out.box 0).f 1
          have r2 := (HT10.out.box 0).c 2
          have g2 := (HT10.out.box 0).f 2
          have c0' := (HT10.out.box 1).c 0
          have c1' := (HT10.out.box 1).c 1
          go_wp2_with fail
          exact bodyPost_ret (v := vec (divV 4 s).1 (divV 4 s).2.1 (divV 4 s).2.2) (by simp [results, Tryz.results19, go_sem, r0, r1, r2]) rfl ⟨by rw [HE2.out]; rfl, bset3 HT10.out.below (by omega)⟩
      · have h2' : ¬ ((on.length : Int) = 2) := by omega
        rw [if_neg h2, List.append_nil, avg_ones] at HE
        have HSM : Calls Tryz.prog 47 #[.slice (some ⟨gp, 0, none⟩) 2 2] wc (VecOut (sumV [p, q]).1 (sumV [p, q]).2.1 (sumV [p, q]).2.2 wc) := sSum_any (some ⟨gp, 0, none⟩) 2 [p, q] wc (RowC.of_own vg_len HO2.out rfl) (by simp) (fun v hv => by
          simp only [List.mem_cons, List.not_mem_nil, or_false] at hv
          rcases hv with rfl | rfl
          · exact HPQ.out.1.mono (by decide)
          · exact HPQ.out.2.mono (by decide))
        have HSB := Lib.hid ((sumV_bd (m := 1000000) (l := [p, q]) (by decide) (fun v hv => by
          simp only [List.mem_cons, List.not_mem_nil, or_false] at hv
          rcases hv with rfl | rfl
          · exact HPQ.out.1
          · exact HPQ.out.2)).mono (n := 8192000000000) (by simp))
        have HE2 : Hid (epL vs fs i0 i1 = divV 2 (sumV [p, q])) := HE
        obtain ⟨s, hs⟩ : ∃ s, s = sumV [p, q] := ⟨_, rfl⟩
        rw [← hs] at HSM HSB HE2
        clear hs HE HRO2 HO2
        go_wp2_with fail
        refine HSM.mono ?_
        rintro e w9 ⟨rfl, hb9⟩
        have HT9 := Lib.hid (HT2.out.later hb9)
        clear hb9 HSM HT2
        go_wp2_with fail
        refine (sBy_any s 2 _ HSB.out).mono ?_
        rintro e w10 ⟨rfl, hb10⟩
        have HT10 := Lib.hid (HT9.out.later hb10)
        clear hb10 HT9
        have r0 := (HT10.out.box 0).c 0
        have g0 := (HT10.out.box 0).f 0
        have r1 := (HT10.out.box 0).c 1
        have g1 := (HT10.out.box 0).f 1
        have r2 := (HT10.out.box 0).c 2
        have g2 := (HT10.out.box 0).f 2
        have c0' := (HT10.out.box 1).c 0
        have c1' := (HT10.out.box 1).c 1
        go_wp2_with fail
        exact bodyPost_ret (v := vec (divV 2 s).1 (divV 2 s).2.1 (divV 2 s).2.2) (by simp [results, Tryz.results19, go_sem, r0, r1, r2]) rfl ⟨by rw [HE2.out], bset3 HT10.out.below (by omega)⟩


end Go.Proofs.YtdefhepagpgnaaaGreat
