/- Contracts of points of faces, in the program. -/
import Derived.Test.YtdefhepagpgnaaaGreatProg
import Derived.Test.YtdefhepagpgnaaaGreatInts
import Derived.Test.YtdefhepagpgnaaaGreatVbox
import Derived.Test.YtdefhepagpgnaaaGreatVec
import Derived.Test.YtdefhepagpgnaaaGreatHeld
import Derived.Test.YtdefhepagpgnaaaGreatMem
import Derived.Test.YtdefhepagpgnaaaGreatRowC
import Derived.Test.YtdefhepagpgnaaaGreatIntS
import Derived.Test.YtdefhepagpgnaaaGreatVecS
import Derived.Test.YtdefhepagpgnaaaGreatSS
import Derived.Test.YtdefhepagpgnaaaGreatMkA
import Derived.Test.YtdefhepagpgnaaaGreatMkB
import Derived.Test.YtdefhepagpgnaaaGreatMkC
import Derived.Test.YtdefhepagpgnaaaGreatMkD
import Derived.Test.YtdefhepagpgnaaaGreatMF
import Derived.Test.YtdefhepagpgnaaaGreatMG
import Derived.Test.YtdefhepagpgnaaaGreatMH
import Derived.Test.YtdefhepagpgnaaaGreatKp
import Derived.Test.YtdefhepagpgnaaaGreatKb
import Derived.Test.YtdefhepagpgnaaaGreatMV
import Derived.Test.YtdefhepagpgnaaaGreatMEF
import Derived.Test.YtdefhepagpgnaaaGreatKa
import Derived.WalkKit
import Derived.WalkSpells
import Derived.WalkLawsBesides
import Derived.Lib.Hide
import Derived.Deep.RegionHeld3
import Derived.Deep.QuietTactic
import Derived.BigQuiet
import Derived.Handy
import Derived.Deep.DeepCutAuto
import Derived.OwnWalk
import Derived.Deep.AppendLies
namespace Go.Proofs.YtdefhepagpgnaaaGreat
open Go.RowKit

theorem average0 (A : Option Addr) (c : Nat) (l : List V3) (w : World) (hR : RowC 3 vg w w.heap.size A l) (hl : l.length ≤ 1000) (hb : ∀ v ∈ l, InV 1000000 v) :
    Calls Tryz.prog 62 #[.slice A l.length c, .slice none 0 0] w (VecOut (avgL (ones l)).1 (avgL (ones l)).2.1 (avgL (ones l)).2.2 w) := by
  have h := average_any A none c 0 l [] w hR Row.nil hl (Nat.zero_le _) (by rw [wl_nil]; exact ones_bd hb)
  rw [wl_nil] at h
  exact h
set_option maxRecDepth 100000 in
set_option maxHeartbeats 4000000 in
theorem verticesAt_any (A1 A2 : Option Addr) (c1 c2 : Nat) (vs : List V3) (fs : List (List Int)) (B : Option Addr) (cb : Nat) (is : List Int) (w : World) (hR : MeshIn w A1 A2 vs fs) (hf : MeshFits vs fs) (hB : Row I64 w w.heap.size B is) (hl : is.length ≤ 1000) (hx : ∀ x ∈ is, 0 ≤ x ∧ x < vs.length) :
    Calls Tryz.prog 63 #[mv A1 A2 vs.length c1 fs.length c2, .slice B is.length cb] w (VsOut w (is.map (gV vs))) := by
  have HL := Lib.hid hl
  have HX := Lib.hid hx
  have HRB := Lib.hid hB
  clear hl hx hB
  have HIN := Lib.hid hR
  have HF := Lib.hid hf
  have HT0 : Held w (w.alloc (.cells #[.slice A1 vs.length c1, .slice A2 fs.length c2] 29)) [(w.heap.size, [.slice A1 vs.length c1, .slice A2 fs.length c2])] := by
    have h := (Held.nil w).new #[.slice A1 vs.length c1, .slice A2 fs.length c2] 29
    simpa only [World.size_alloc] using h
  have HI : ∀ {bs : List (Nat × List Value)} (W : World), Held w W bs → MeshIn W A1 A2 vs fs := fun W h => ⟨(HIN.out.1.below h.below).more h.size, (HIN.out.2.below h.below).more h.size⟩
  have HT := Lib.hid HT0
  clear hR hf HT0
  have HO1 := Lib.hid (World.ownsRow_nil (w.alloc (.cells #[.slice A1 vs.length c1, .slice A2 fs.length c2] 29)) (w.heap.size + 1) 43 3)
  go_enter Tryz.func63, Tryz.ntmps63
  go_wp2
  go_loopw [5, 10] (fun u i wr => ∃ k : Nat, k ≤ is.length ∧ i = .int .i64 k ∧ wr.ownsRow (w.heap.size + 1) 43 3 u k (((is.take k).map (gV vs)).flatMap vg) ∧ Held w wr [(w.heap.size, [.slice A1 vs.length c1, .slice A2 fs.length c2])]) (fun _ i _ => is.length - (intOf i).toNat)
  case atStart => exact ⟨0, Nat.zero_le _, rfl, HO1.out, HT.out⟩
  case round =>
    clear HT HO1
    obtain ⟨k, hk, rfl, hown, ht⟩ := hrel
    have HO := Lib.hid hown
    have HT := Lib.hid ht
    clear hown ht
    by_cases hlt : k < is.length
    · obtain ⟨bi, oi, rfl, hbi, hci⟩ := HRB.out.at hlt
      have hx0 := HX.out _ (List.getElem_mem hlt)
      have HTK := Lib.hid (List.take_succ_eq_append_getElem hlt)
      obtain ⟨x, hx⟩ : ∃ x, x = is[k] := ⟨_, rfl⟩
      rw [← hx] at hci hx0
      simp only [← hx] at HTK
      clear hx
      obtain ⟨i0, rfl⟩ : ∃ n : Nat, x = (n : Int) := ⟨x.toNat, by omega⟩
      have l0 : i0 < vs.length := by omega
      obtain ⟨bv, ov, v, rfl, hbv, e0, v00, v01, v02⟩ := HIN.out.1.vecK l0
      have HG : Hid (gV vs i0 = v) := Lib.hid (by rw [gV_nat _ _ l0]; exact e0)
      have hci' := (HT.out.below.cell (p := ⟨bi, oi + k, none⟩) hbi).trans hci
      have d0 := (HT.out.below.cell (p := ⟨bv, ov + i0 * 3, none⟩) hbv).trans v00
      have d1 := (HT.out.below.cell (p := ⟨bv, ov + i0 * 3 + 1, none⟩) hbv).trans v01
      have d2 := (HT.out.below.cell (p := ⟨bv, ov + i0 * 3 + 2, none⟩) hbv).trans v02
      have c0' := (HT.out.box 0).c 0
      have p0 : (0 : Int) ≤ (i0 : Int) := by omega
      have q0 : (i0 : Int) < (vs.length : Int) := by omega
      have hz := HL.out
      clear hci v00 v01 v02 e0 hx0
      go_wp2_with (at_builtin; refine wpList_appN wr rfl _ _ 27 rfl (w.heap.size + 1) 43 (vec 0 0 0) 3 24 Tryz.underlying27 infoVec rfl (by omega) _ _ _ (by rfl) HO.out #[.int .i64 v.1, .int .i64 v.2.1, .int .i64 v.2.2] rfl (by rfl) (by simp [Value.oneCell']) (by have := HL.out; unfold maxLen; omega) (by have := HL.out; omega) (HT.out.box 0).lt ?_)
      intro v5 w5 ho5 hg5
      have hop : ∀ q, u5.ownBlock = some q → w.heap.size + 1 ≤ q := own_block HO.out
      have HT5 := Lib.hid (heldGrown' HT.out hg5 (fun q hq => by have := hop q hq; omega) (fun p hp c => by
        simp only [List.mem_singleton] at hp
        subst hp
        have := hop _ c.symm
        omega))
      have HO5 : Hid (w5.ownsRow (w.heap.size + 1) 43 3 v5 (k + 1) (((is.take (k + 1)).map (gV vs)).flatMap vg)) := Lib.hid (by
        rw [HTK.out, List.map_append, List.map_singleton, HG.out, flat_one, List.map_take]
        exact ho5)
      clear ho5 hg5 hop HO HT d0 d1 d2 c0' hci'
      go_wp2_with fail
      go_roundw
      case rel => exact ⟨k + 1, by omega, by go_num, HO5.out, HT5.out⟩
      case measure => simp [intOf]; omega
    · have e : k = is.length := by omega
      obtain ⟨A5, c5, e5⟩ := own_shape HO.out
      have HFIN : Hid (VsOut w (is.map (gV vs)) (.returned u5) wr) := Lib.hid (by
        have ho := HO.out
        rw [e5, e, List.take_length] at ho
        exact ⟨A5, c5, by rw [e5, e, List.length_map], by rw [List.length_map]; exact own_base ho (by omega), HT.out.below⟩)
      clear e5 e HO HT
      go_wp2
      go_ret
      exact HFIN.out

set_option maxRecDepth 100000 in
set_option maxHeartbeats 16000000 in
theorem facePoint_any (A1 A2 : Option Addr) (c1 c2 : Nat) (vs : List V3) (fs : List (List Int)) (k : Nat) (w : World) (hR : MeshIn w A1 A2 vs fs) (hf : MeshFits vs fs) (hok : okMesh vs fs = true) (hk : k < fs.length) :
    Calls Tryz.prog 28 #[mv A1 A2 vs.length c1 fs.length c2, .int .i64 k] w (VecOut (fpI vs fs k).1 (fpI vs fs k).2.1 (fpI vs fs k).2.2 w) := by
  have hfi := (ok_all hok).2.2 _ (List.getElem_mem hk)
  obtain ⟨b, o, a, cc, rfl, hbl, hc, hle, hcm, hrow⟩ := hR.2.at hk
  have e0 : fpI vs fs k = avgL (ones (fs[k].map (gV vs))) := by unfold fpI fpV; rw [Int.toNat_natCast, gd _ _ _ hk]
  rw [e0]
  clear e0
  obtain ⟨f, hF⟩ : ∃ f, f = fs[k] := ⟨_, rfl⟩
  rw [← hF] at hc hrow hfi ⊢
  have HXI := Lib.hid (face_in4 hfi)
  have HV := Lib.hid (ok_vec hok)
  have HRO := Lib.hid hrow
  have h4 := (face_in4 hfi).1
  rw [h4] at hc
  have hkf : (k : Int) < (fs.length : Int) := by omega
  have hkf0 : (0 : Int) ≤ (k : Int) := by omega
  clear hle hcm hrow hfi hF hok
  have HIN := Lib.hid hR
  have HF := Lib.hid hf
  have HT0 : Held w ((w.alloc (.cells #[.slice A1 vs.length c1, .slice (some ⟨b, o, none⟩) fs.length c2] 29)).alloc (.cells #[.int .i64 0, .int .i64 0, .int .i64 0] 43)) [(w.heap.size + 1, [.int .i64 0, .int .i64 0, .int .i64 0]), (w.heap.size, [.slice A1 vs.length c1, .slice (some ⟨b, o, none⟩) fs.length c2])] := by
    have h := ((Held.nil w).new #[.slice A1 vs.length c1, .slice (some ⟨b, o, none⟩) fs.length c2] 29).new #[.int .i64 0, .int .i64 0, .int .i64 0] 43
    simpa only [World.size_alloc] using h
  have HI : ∀ {bs : List (Nat × List Value)} (W : World), Held w W bs → MeshIn W A1 (some ⟨b, o, none⟩) vs fs := fun W h => ⟨(HIN.out.1.below h.below).more h.size, (HIN.out.2.below h.below).more h.size⟩
  have HT := Lib.hid HT0
  clear hR hf HT0
  have HH := Lib.hid hc
  have HRI : ∀ {bs : List (Nat × List Value)} (W : World), Held w W bs → Row I64 W W.heap.size a f := fun W h => (HRO.out.below h.below).more h.size
  have HVA : Hid (∀ W, MeshIn W (A1) (some ⟨b, o, none⟩) vs fs → Row I64 W W.heap.size a f → Calls Tryz.prog 63 #[mv A1 (some ⟨b, o, none⟩) vs.length c1 fs.length c2, .slice a 4 cc] W (VsOut W (f.map (gV vs)))) := Lib.hid (fun W h1 h2 => by
    have h := verticesAt_any A1 (some ⟨b, o, none⟩) c1 c2 vs fs a cc f W h1 HF.out h2 (by rw [h4]; omega) HXI.out.2
    rw [h4] at h
    exact h)
  obtain ⟨l, hL⟩ : ∃ l, l = f.map (gV vs) := ⟨_, rfl⟩
  rw [← hL] at HVA ⊢
  have HLB : Hid (l.length = 4 ∧ ∀ v ∈ l, InV 1000000 v) := Lib.hid ⟨by rw [hL, List.length_map, h4], fun v hv => by rw [hL] at hv; obtain ⟨x, _, rfl⟩ := List.mem_map.1 hv; exact gV_in HV.out x⟩
  have HC : ∀ W, Held w W [(w.heap.size, [.slice A1 vs.length c1, .slice (some ⟨b, o, none⟩) fs.length c2])] → (W.cell? ⟨w.heap.size, 0, none⟩ = some (.slice A1 vs.length c1) ∧ W.cell? ⟨w.heap.size, 1, none⟩ = some (.slice (some ⟨b, o, none⟩) fs.length c2) ∧ W.cell? ⟨b, o + k, none⟩ = some (.slice a 4 cc)) := fun W h => ⟨(h.box 0).c 0, (h.box 0).c 1, (h.below.cell (p := ⟨b, o + k, none⟩) hbl).trans HH.out⟩
  clear h4 hc hL HIN
  have HT := HT.out
  go_enter Tryz.func28, Tryz.ntmps28
  go_wp2_with fail
  go_region_held3 (fun W => W.cell? ⟨w.heap.size, 0, none⟩ = some (.slice A1 vs.length c1) ∧ W.cell? ⟨w.heap.size, 1, none⟩ = some (.slice (some ⟨b, o, none⟩) fs.length c2) ∧ W.cell? ⟨b, o + k, none⟩ = some (.slice a 4 cc))
    (first | (with_reducible exact HC _ HT.tail) | (with_reducible exact HC _ HT.drew.tail) | (with_reducible exact HC _ (HT.tail.far3 (by omega) (by simp) _ _ _)))
    (first | (go_at_call 63; refine (HVA.out _ (by first | with_reducible exact HI _ HT | with_reducible exact HI _ HT.drew) (by first | with_reducible exact HRI _ HT | with_reducible exact HRI _ HT.drew)).mono ?_; rintro e w1 ⟨A6, c6, rfl, ho1, hb1⟩; (first | (have HT := HT.later hb1) | (have HT := HT.drew.later hb1)); have HRV := RowC.of_own vg_len ho1 rfl) | (go_at_call 62; refine (average0 A6 c6 l _ (by first | with_reducible exact HRV | with_reducible exact HRV.drew) (by have := HLB.out.1; omega) HLB.out.2).mono ?_; rintro e w1 ⟨rfl, hb1⟩; (first | (have HT := HT.later hb1) | (have HT := HT.drew.later hb1)); have r0 := (HT.box 0).c 0; have g0 := (HT.box 0).f 0; have r1 := (HT.box 0).c 1; have g1 := (HT.box 0).f 1; have r2 := (HT.box 0).c 2; have g2 := (HT.box 0).f 2))
  go_wp2
  exact bodyPost_ret (v := vec (avgL (ones l)).1 (avgL (ones l)).2.1 (avgL (ones l)).2.2) (by simp [results, Tryz.results28, go_sem, r0, r1, r2]) rfl ⟨rfl, bset3 HT.below (by omega)⟩

set_option maxRecDepth 100000 in
set_option maxHeartbeats 4000000 in
theorem facePoints_any (A1 A2 : Option Addr) (c1 c2 : Nat) (vs : List V3) (fs : List (List Int)) (B : Option Addr) (cb : Nat) (is : List Int) (w : World) (hR : MeshIn w A1 A2 vs fs) (hf : MeshFits vs fs) (hok : okMesh vs fs = true) (hB : Row I64 w w.heap.size B is) (hl : is.length ≤ 1000) (hx : ∀ x ∈ is, 0 ≤ x ∧ x < fs.length) :
    Calls Tryz.prog 66 #[mv A1 A2 vs.length c1 fs.length c2, .slice B is.length cb] w (VsOut w (is.map (fpI vs fs))) := by
  have HL := Lib.hid hl
  have HX := Lib.hid hx
  have HRB := Lib.hid hB
  have HOK := Lib.hid hok
  clear hl hx hB hok
  have HIN := Lib.hid hR
  have HF := Lib.hid hf
  have HT0 : Held w (w.alloc (.cells #[.slice A1 vs.length c1, .slice A2 fs.length c2] 29)) [(w.heap.size, [.slice A1 vs.length c1, .slice A2 fs.length c2])] := by
    have h := (Held.nil w).new #[.slice A1 vs.length c1, .slice A2 fs.length c2] 29
    simpa only [World.size_alloc] using h
  have HI : ∀ {bs : List (Nat × List Value)} (W : World), Held w W bs → MeshIn W A1 A2 vs fs := fun W h => ⟨(HIN.out.1.below h.below).more h.size, (HIN.out.2.below h.below).more h.size⟩
  have HT := Lib.hid HT0
  clear hR hf HT0
  have HO1 := Lib.hid (World.ownsRow_nil (w.alloc (.cells #[.slice A1 vs.length c1, .slice A2 fs.length c2] 29)) (w.heap.size + 1) 43 3)
  go_enter Tryz.func66, Tryz.ntmps66
  go_wp2
  go_loopw [5, 10] (fun u i wr => ∃ k : Nat, k ≤ is.length ∧ i = .int .i64 k ∧ wr.ownsRow (w.heap.size + 1) 43 3 u k (((is.take k).map (fpI vs fs)).flatMap vg) ∧ Held w wr [(w.heap.size, [.slice A1 vs.length c1, .slice A2 fs.length c2])]) (fun _ i _ => is.length - (intOf i).toNat)
  case atStart => exact ⟨0, Nat.zero_le _, rfl, HO1.out, HT.out⟩
  case round =>
    clear HT HO1
    obtain ⟨k, hk, rfl, hown, ht⟩ := hrel
    have HO := Lib.hid hown
    have HT := Lib.hid ht
    clear hown ht
    by_cases hlt : k < is.length
    · obtain ⟨bi, oi, rfl, hbi, hci⟩ := HRB.out.at hlt
      have hx0 := HX.out _ (List.getElem_mem hlt)
      have HTK := Lib.hid (List.take_succ_eq_append_getElem hlt)
      obtain ⟨x, hx⟩ : ∃ x, x = is[k] := ⟨_, rfl⟩
      rw [← hx] at hci hx0
      simp only [← hx] at HTK
      clear hx
      obtain ⟨i0, rfl⟩ : ∃ n : Nat, x = (n : Int) := ⟨x.toNat, by omega⟩
      have l0 : i0 < fs.length := by omega
      have hci' := (HT.out.below.cell (p := ⟨bi, oi + k, none⟩) hbi).trans hci
      have c0' := (HT.out.box 0).c 0
      have c1' := (HT.out.box 0).c 1
      have hz := HL.out
      clear hci hx0
      have HC := facePoint_any A1 A2 c1 c2 vs fs i0 wr (HI _ HT.out) HF.out HOK.out l0
      obtain ⟨v, hv⟩ : ∃ v, v = fpI vs fs i0 := ⟨_, rfl⟩
      rw [← hv] at HC
      have HV := Lib.hid hv
      clear l0 hv
      go_wp2_with fail
      refine HC.mono ?_
      rintro e w1 ⟨rfl, hb1⟩
      have HT1 := Lib.hid (HT.out.later hb1)
      have HO1 := Lib.hid (own_keep' HO.out hb1)
      clear hb1 HC HT HO c0' c1' hci'
      go_wp2_with (at_builtin; refine wpList_appN w1 rfl _ _ 27 rfl (w.heap.size + 1) 43 (vec 0 0 0) 3 24 Tryz.underlying27 infoVec rfl (by omega) _ _ _ (by rfl) HO1.out #[.int .i64 v.1, .int .i64 v.2.1, .int .i64 v.2.2] rfl (by rfl) (by simp [Value.oneCell']) (by have := HL.out; unfold maxLen; omega) (by have := HL.out; omega) (HT1.out.box 0).lt ?_)
      intro v5 w5 ho5 hg5
      have hop : ∀ q, u5.ownBlock = some q → w.heap.size + 1 ≤ q := own_block HO1.out
      have HT5 := Lib.hid (heldGrown' HT1.out hg5 (fun q hq => by have := hop q hq; omega) (fun p hp c => by
        simp only [List.mem_singleton] at hp
        subst hp
        have := hop _ c.symm
        omega))
      have HO5 : Hid (w5.ownsRow (w.heap.size + 1) 43 3 v5 (k + 1) (((is.take (k + 1)).map (fpI vs fs)).flatMap vg)) := Lib.hid (by
        rw [HTK.out, List.map_append, List.map_singleton, ← HV.out, flat_one, List.map_take]
        exact ho5)
      clear ho5 hg5 hop HO1 HT1
      go_wp2_with fail
      go_roundw
      case rel => exact ⟨k + 1, by omega, by go_num, HO5.out, HT5.out⟩
      case measure => simp [intOf]; omega
    · have e : k = is.length := by omega
      obtain ⟨A5, c5, e5⟩ := own_shape HO.out
      have HFIN : Hid (VsOut w (is.map (fpI vs fs)) (.returned u5) wr) := Lib.hid (by
        have ho := HO.out
        rw [e5, e, List.take_length] at ho
        exact ⟨A5, c5, by rw [e5, e, List.length_map], by rw [List.length_map]; exact own_base ho (by omega), HT.out.below⟩)
      clear e5 e HO HT
      go_wp2
      go_ret
      exact HFIN.out



end Go.Proofs.YtdefhepagpgnaaaGreat
