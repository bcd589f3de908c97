/- Contracts of sums, quotients and points of faces, in the model. -/
import Derived.Test.YtdefhepagpgnaaaGreatProg
import Derived.Test.YtdefhepagpgnaaaGreatInts
import Derived.Test.YtdefhepagpgnaaaGreatVbox
import Derived.Test.YtdefhepagpgnaaaGreatVec
import Derived.Test.YtdefhepagpgnaaaGreatHeld
import Derived.Test.YtdefhepagpgnaaaGreatMem
import Derived.Test.YtdefhepagpgnaaaGreatRowC
import Derived.Test.YtdefhepagpgnaaaGreatIntS
import Derived.Test.YtdefhepagpgnaaaGreatVecS
import Derived.Test.YtdefhepagpgnaaaGreatSS
import Derived.Test.YtdefhepagpgnaaaGreatMkA
import Derived.Test.YtdefhepagpgnaaaGreatMkB
import Derived.Test.YtdefhepagpgnaaaGreatMkC
import Derived.Test.YtdefhepagpgnaaaGreatMkD
import Derived.Test.YtdefhepagpgnaaaGreatMF
import Derived.Test.YtdefhepagpgnaaaGreatMG
import Derived.Test.YtdefhepagpgnaaaGreatMH
import Derived.Test.YtdefhepagpgnaaaGreatKp
import Derived.Test.YtdefhepagpgnaaaGreatMW
import Derived.Test.YtdefhepagpgnaaaGreatMEF
import Derived.Test.YtdefhepagpgnaaaGreatKa
import Derived.WalkKit
import Derived.WalkSpells
import Derived.WalkLawsBesides
import Derived.Lib.Hide
import Derived.Deep.RegionHeld3
import Derived.Deep.QuietTactic
import Derived.BigQuiet
import Derived.Handy
import Derived.Deep.DeepCutAuto
import Derived.OwnWalk
import Derived.Deep.AppendLies
namespace Go.Proofs.YtdefhepagpgnaaaGreat
open Go.RowKit

theorem made_nil3 (w : World) (t : TypeId) : (w.alloc (.cells #[] t)).ownsRow w.heap.size t 3 (.slice (some ⟨w.heap.size, 0, none⟩) 0 0) 0 [] := World.ownsRow_made w #[] 0 (Nat.le_refl _) (by unfold maxLen; omega) rfl
set_option maxRecDepth 100000 in
set_option maxHeartbeats 4000000 in
theorem sSum_any (A : Option Addr) (c : Nat) (l : List V3) (w : World) (hR : RowC 3 vg w w.heap.size A l) (hl : l.length ≤ 1000) (hb : ∀ v ∈ l, InV 4096000000 v) :
    Calls Tryz.prog 47 #[.slice A l.length c] w (VecOut (sumV l).1 (sumV l).2.1 (sumV l).2.2 w) := by
  have HR := Lib.hid hR
  have HB := Lib.hid hb
  have HL := Lib.hid hl
  have HT0 : Held w ((w.alloc (.cells #[.int .i64 0, .int .i64 0, .int .i64 0] 43)).alloc (.cells #[.int .i64 0, .int .i64 0, .int .i64 0] 43)) [(w.heap.size + 1, [.int .i64 0, .int .i64 0, .int .i64 0]), (w.heap.size, [.int .i64 0, .int .i64 0, .int .i64 0])] := by
    have h := ((Held.nil w).new #[.int .i64 0, .int .i64 0, .int .i64 0] 43).new #[.int .i64 0, .int .i64 0, .int .i64 0] 43
    simpa only [World.size_alloc] using h
  have HT := Lib.hid HT0
  clear hR hb hl HT0
  go_enter Tryz.func47, Tryz.ntmps47
  go_wp2_with fail
  go_loopw [9] (fun i wr => ∃ k : Nat, k ≤ l.length ∧ i = .int .i64 k ∧ Held w wr [(w.heap.size + 1, vg (sumV (l.take k))), (w.heap.size, [.int .i64 0, .int .i64 0, .int .i64 0])]) (fun i _ => l.length - (intOf i).toNat)
  case atStart => exact ⟨0, Nat.zero_le _, rfl, HT.out⟩
  case round =>
    clear HT
    obtain ⟨k, hk, rfl, ht⟩ := hrel
    have HT := Lib.hid ht
    clear ht
    by_cases hlt : k < l.length
    · obtain ⟨b, o, rfl, hbl, hc⟩ := HR.out.at hlt
      have c0 := (HT.out.below.cell (p := ⟨b, o + k * 3, none⟩) hbl).trans (vg_at hc).1
      have c1 := (HT.out.below.cell (p := ⟨b, o + k * 3 + 1, none⟩) hbl).trans (vg_at hc).2.1
      have c2 := (HT.out.below.cell (p := ⟨b, o + k * 3 + 2, none⟩) hbl).trans (vg_at hc).2.2
      have HS1 := Lib.hid (sumV_take l hlt)
      have hsb := (sumV_bd (m := 4096000000) (by decide) (l := l.take (k + 1)) (fun v hv => HB.out v (List.mem_of_mem_take hv))).mono (n := 4100000000000) (by rw [List.length_take]; have := HL.out; omega)
      rw [HS1.out] at hsb
      obtain ⟨v, hv⟩ : ∃ v, v = l[k] := ⟨_, rfl⟩
      rw [← hv] at c0 c1 c2 hsb
      simp only [← hv] at HS1
      obtain ⟨s, hs⟩ : ∃ s, s = sumV (l.take k) := ⟨_, rfl⟩
      rw [← hs] at HT HS1 hsb
      have e0 := wrap_in (a := s.1 + v.1) (by have := hsb.1; simp only [addV] at this; omega)
      have e1 := wrap_in (a := s.2.1 + v.2.1) (by have := hsb.2.1; simp only [addV] at this; omega)
      have e2 := wrap_in (a := s.2.2 + v.2.2) (by have := hsb.2.2; simp only [addV] at this; omega)
      have hl := HL.out
      have hn := HT.out.new #[.int .i64 v.1, .int .i64 v.2.1, .int .i64 v.2.2] 43
      have HN := Lib.hid hn
      have HP : Hid (Held w ((((wr.alloc (.cells #[.int .i64 v.1, .int .i64 v.2.1, .int .i64 v.2.2] 43)).setCell ⟨w.heap.size + 1, 0, none⟩ (.int .i64 (s.1 + v.1))).setCell ⟨w.heap.size + 1, 1, none⟩ (.int .i64 (s.2.1 + v.2.1))).setCell ⟨w.heap.size + 1, 2, none⟩ (.int .i64 (s.2.2 + v.2.2))) [(w.heap.size + 1, vg (addV s v)), (w.heap.size, [.int .i64 0, .int .i64 0, .int .i64 0])]) := Lib.hid (Held.putVV (a := s) (hn.pick (cs := [(w.heap.size + 1, vg s), (w.heap.size, [.int .i64 0, .int .i64 0, .int .i64 0])]) (by simp)) (by omega) (by simp) (addV s v))
      have p0 := (HN.out.box 0).c 0
      have p1 := (HN.out.box 0).c 1
      have p2 := (HN.out.box 0).c 2
      have s0 := (HN.out.box 1).c 0
      have s1 := (HN.out.box 1).c 1
      have s2 := (HN.out.box 1).c 2
      have g0 := (HN.out.box 1).f 0
      have g1 := (HN.out.box 1).f 1
      have g2 := (HN.out.box 1).f 2
      clear hc hv hs hsb hn HT HN
      go_wp2_with fail
      go_roundw
      case rel => exact ⟨k + 1, by omega, by go_num, by rw [HS1.out]; exact HP.out⟩
      case measure => simp [intOf]; omega
    · have e : k = l.length := by omega
      have hlt' : ¬ (k : Int) < (l.length : Int) := by omega
      have ht := HT.out
      rw [List.take_of_length_le (by omega)] at ht
      obtain ⟨s, hs⟩ : ∃ s, s = sumV l := ⟨_, rfl⟩
      have HS := Lib.hid hs
      rw [← hs] at ht
      have HT := ht
      have s0 := (HT.box 0).c 0
      have s1 := (HT.box 0).c 1
      have s2 := (HT.box 0).c 2
      have r0 := (HT.box 1).c 0
      have r1 := (HT.box 1).c 1
      have r2 := (HT.box 1).c 2
      have g0 := (HT.box 1).f 0
      have g1 := (HT.box 1).f 1
      have g2 := (HT.box 1).f 2
      clear hs e hk ht
      go_wp2_with fail
      exact bodyPost_ret (v := vec s.1 s.2.1 s.2.2) (by simp [results, Tryz.results47, go_sem, r0, r1, r2]) rfl ⟨by rw [HS.out], bset3 HT.below (Nat.le_refl _)⟩

theorem sFloorB (a b : Int) (w : World) (h : -9223372036854775808 ≤ a ∧ a ≤ 9223372036854775807) : Calls Tryz.prog 77 #[.int .i64 a, .int .i64 b] w fun e w' => e = .returned (.int .i64 (fdivP a b)) ∧ Below w.heap.size w w' :=
  (sFloorDiv_any a b w h.1 h.2).mono fun e w' h => ⟨h.1, by rw [← h.2]; exact Below.refl _ _⟩

set_option maxRecDepth 100000 in
set_option maxHeartbeats 4000000 in
theorem sBy_any (v : V3) (n : Int) (w : World) (hb : InV 8192000000000 v) :
    Calls Tryz.prog 46 #[vec v.1 v.2.1 v.2.2, .int .i64 n] w (VecOut (divV n v).1 (divV n v).2.1 (divV n v).2.2 w) := by
  have HB := Lib.hid (show ∀ x, (x = v.1 ∨ x = v.2.1 ∨ x = v.2.2) → -9223372036854775808 ≤ x ∧ x ≤ 9223372036854775807 from fun x hx => by unfold InV at hb; rcases hx with rfl | rfl | rfl <;> omega)
  have HT0 : Held w ((w.alloc (.cells #[.int .i64 v.1, .int .i64 v.2.1, .int .i64 v.2.2] 43)).alloc (.cells #[.int .i64 0, .int .i64 0, .int .i64 0] 43)) [(w.heap.size + 1, [.int .i64 0, .int .i64 0, .int .i64 0]), (w.heap.size, vg v)] := by
    have h := ((Held.nil w).new #[.int .i64 v.1, .int .i64 v.2.1, .int .i64 v.2.2] 43).new #[.int .i64 0, .int .i64 0, .int .i64 0] 43
    have h : Held w ((w.alloc (.cells #[.int .i64 v.1, .int .i64 v.2.1, .int .i64 v.2.2] 43)).alloc (.cells #[.int .i64 0, .int .i64 0, .int .i64 0] 43)) [(w.heap.size + 1, [.int .i64 0, .int .i64 0, .int .i64 0]), (w.heap.size, [.int .i64 v.1, .int .i64 v.2.1, .int .i64 v.2.2])] := by simpa only [World.size_alloc] using h
    exact h
  have HT := HT0
  have HC : ∀ W, Held w W [(w.heap.size, vg v)] → (W.cell? ⟨w.heap.size, 0, none⟩ = some (.int .i64 v.1) ∧ W.cell? ⟨w.heap.size, 1, none⟩ = some (.int .i64 v.2.1) ∧ W.cell? ⟨w.heap.size, 2, none⟩ = some (.int .i64 v.2.2)) := fun W h => ⟨(h.box 0).c 0, (h.box 0).c 1, (h.box 0).c 2⟩
  clear hb HT0
  go_enter Tryz.func46, Tryz.ntmps46
  go_wp2_with fail
  go_region_held3 (fun W => W.cell? ⟨w.heap.size, 0, none⟩ = some (.int .i64 v.1) ∧ W.cell? ⟨w.heap.size, 1, none⟩ = some (.int .i64 v.2.1) ∧ W.cell? ⟨w.heap.size, 2, none⟩ = some (.int .i64 v.2.2))
    (first | (with_reducible exact HC _ HT.tail) | (with_reducible exact HC _ HT.drew.tail) | (with_reducible exact HC _ (HT.tail.far3 (by omega) (by simp) _ _ _)) | (with_reducible exact HC _ (HT.drew.tail.far3 (by omega) (by simp) _ _ _)))
    (first | (go_at_call 77; refine (sFloorB _ _ _ (HB.out _ (by simp))).mono ?_; rintro e w1 ⟨rfl, hb1⟩; (first | (have HT := HT.later hb1) | (have HT := HT.drew.later hb1)); have r0 := (HT.box 0).c 0; have g0 := (HT.box 0).f 0; have r1 := (HT.box 0).c 1; have g1 := (HT.box 0).f 1; have r2 := (HT.box 0).c 2; have g2 := (HT.box 0).f 2))
  go_wp2
  exact bodyPost_ret (v := vec (divV n v).1 (divV n v).2.1 (divV n v).2.2) (by simp [results, Tryz.results46, go_sem, r0, r1, r2, divV]) rfl ⟨rfl, bset3 HT.below (by omega)⟩

theorem wide_lo' {a : Int} (h : -4096000000 ≤ a) : -4611686018427387904 ≤ a := by omega
theorem wide_hi' {a : Int} (h : a ≤ 4096000000) : a ≤ 4611686018427387903 := by omega
set_option maxRecDepth 100000 in
set_option maxHeartbeats 4000000 in
theorem sTimes_any (v : V3) (k : Int) (w : World) (hb : InV 4096000000 (mulV k v)) :
    Calls Tryz.prog 48 #[vec v.1 v.2.1 v.2.2, .int .i64 k] w (VecOut (mulV k v).1 (mulV k v).2.1 (mulV k v).2.2 w) := by
  have e0 : IntKind.i64.wrap (v.1 * k) = (mulV k v).1 := by rw [Int.mul_comm]; exact wrap_in ⟨wide_lo' hb.1.1, wide_hi' hb.1.2⟩
  have e1 : IntKind.i64.wrap (v.2.1 * k) = (mulV k v).2.1 := by rw [Int.mul_comm]; exact wrap_in ⟨wide_lo' hb.2.1.1, wide_hi' hb.2.1.2⟩
  have e2 : IntKind.i64.wrap (v.2.2 * k) = (mulV k v).2.2 := by rw [Int.mul_comm]; exact wrap_in ⟨wide_lo' hb.2.2.1, wide_hi' hb.2.2.2⟩
  have HT : Held w ((w.alloc (.cells #[.int .i64 v.1, .int .i64 v.2.1, .int .i64 v.2.2] 43)).alloc (.cells #[.int .i64 0, .int .i64 0, .int .i64 0] 43)) [(w.heap.size + 1, [.int .i64 0, .int .i64 0, .int .i64 0]), (w.heap.size, vg v)] := by
    have h := ((Held.nil w).new #[.int .i64 v.1, .int .i64 v.2.1, .int .i64 v.2.2] 43).new #[.int .i64 0, .int .i64 0, .int .i64 0] 43
    have h : Held w ((w.alloc (.cells #[.int .i64 v.1, .int .i64 v.2.1, .int .i64 v.2.2] 43)).alloc (.cells #[.int .i64 0, .int .i64 0, .int .i64 0] 43)) [(w.heap.size + 1, [.int .i64 0, .int .i64 0, .int .i64 0]), (w.heap.size, [.int .i64 v.1, .int .i64 v.2.1, .int .i64 v.2.2])] := by simpa only [World.size_alloc] using h
    exact h
  have s0 := (HT.box 1).c 0
  have s1 := (HT.box 1).c 1
  have s2 := (HT.box 1).c 2
  clear hb
  go_enter Tryz.func48, Tryz.ntmps48
  go_wp2_with fail
  exact bodyPost_ret (v := vec (mulV k v).1 (mulV k v).2.1 (mulV k v).2.2) (by simp [results, Tryz.results48, go_sem]) rfl ⟨rfl, by go_grown⟩

set_option maxRecDepth 100000 in
set_option maxHeartbeats 16000000 in
theorem sFacePoint_any (A1 A2 : Option Addr) (c1 c2 : Nat) (vs : List V3) (fs : List (List Int)) (f : Int) (w : World) (hR : MeshIn w A1 A2 vs fs) (hf : MeshFits vs fs) :
    Calls Tryz.prog 20 #[mv A1 A2 vs.length c1 fs.length c2, .int .i64 f] w (VecOut (fpL vs fs f).1 (fpL vs fs f).2.1 (fpL vs fs f).2.2 w) := by
  have HIN := Lib.hid hR
  have HF := Lib.hid hf
  have HT0 : Held w ((w.alloc (.cells #[.slice A1 vs.length c1, .slice A2 fs.length c2] 29)).alloc (.cells #[.int .i64 0, .int .i64 0, .int .i64 0] 43)) [(w.heap.size + 1, [.int .i64 0, .int .i64 0, .int .i64 0]), (w.heap.size, [.slice A1 vs.length c1, .slice A2 fs.length c2])] := by
    have h := ((Held.nil w).new #[.slice A1 vs.length c1, .slice A2 fs.length c2] 29).new #[.int .i64 0, .int .i64 0, .int .i64 0] 43
    simpa only [World.size_alloc] using h
  have HI : ∀ {bs : List (Nat × List Value)} (W : World), Held w W bs → MeshIn W A1 A2 vs fs := fun W h => ⟨(HIN.out.1.below h.below).more h.size, (HIN.out.2.below h.below).more h.size⟩
  have HT := Lib.hid HT0
  clear hR hf HT0
  obtain ⟨ok, hok⟩ : ∃ ok, ok = okMesh vs fs := ⟨_, rfl⟩
  have HOK := Lib.hid hok
  have HC := sValidMesh_any A1 A2 c1 c2 vs fs _ (HI _ HT.out) HF.out
  rw [← hok] at HC
  clear hok
  have c0' := (HT.out.box 1).c 0
  have c1' := (HT.out.box 1).c 1
  go_enter Tryz.func20, Tryz.ntmps20
  go_wp2_with fail
  refine HC.mono ?_
  rintro e w1 ⟨rfl, hb1⟩
  have HT1 := Lib.hid (HT.out.later hb1)
  clear hb1 HT c0' c1' HC
  have r0 := (HT1.out.box 0).c 0
  have g0 := (HT1.out.box 0).f 0
  have r1 := (HT1.out.box 0).c 1
  have g1 := (HT1.out.box 0).f 1
  have r2 := (HT1.out.box 0).c 2
  have g2 := (HT1.out.box 0).f 2
  have c0' := (HT1.out.box 1).c 0
  have c1' := (HT1.out.box 1).c 1
  cases ok
  · have HE : Hid (fpL vs fs f = (0, 0, 0)) := Lib.hid (by unfold fpL; rw [if_neg (by rw [← HOK.out]; simp)])
    go_wp2_with fail
    exact bodyPost_ret (v := vec 0 0 0) (by simp [results, Tryz.results20, go_sem, r0, r1, r2]) rfl ⟨by rw [HE.out], bset3 HT1.out.below (by omega)⟩
  · have hfl := HF.out.2.1
    by_cases h0 : 0 ≤ f ∧ f ≤ (fs.length : Int) - 1
    · obtain ⟨k, rfl⟩ : ∃ n : Nat, f = (n : Int) := ⟨f.toNat, by omega⟩
      have hk : k < fs.length := by omega
      have hkf : (k : Int) < (fs.length : Int) := by omega
      have hkf0 : (0 : Int) ≤ (k : Int) := by omega
      have HE : Hid (fpL vs fs k = fpI vs fs k) := Lib.hid (by unfold fpL; rw [if_pos ⟨HOK.out.symm, by omega, by omega⟩])
      have HYES := inV_yes (k : Int) 0 ((fs.length : Int) - 1) w1 h0.1 h0.2
      have hfi := (ok_all HOK.out.symm).2.2 _ (List.getElem_mem hk)
      have HV := Lib.hid (ok_vec HOK.out.symm)
      obtain ⟨b, o, a, cc, rfl, hbl, hc, hle, hcm, hrow⟩ := HIN.out.2.at hk
      have e0 : fpI vs fs k = avgL (ones (fs[k].map (gV vs))) := by unfold fpI fpV; rw [Int.toNat_natCast, gd _ _ _ hk]
      rw [e0] at HE
      clear e0
      obtain ⟨F, hF⟩ : ∃ F, F = fs[k] := ⟨_, rfl⟩
      rw [← hF] at hc hrow hfi HE
      have HXI := Lib.hid (face_in4 hfi)
      have HRO := Lib.hid hrow
      have h4 := (face_in4 hfi).1
      have hc' := (HT1.out.below.cell (p := ⟨b, o + k, none⟩) hbl).trans hc
      rw [h4] at hc'
      have HC0 : Hid (avgL (ones (F.map (gV vs))) = divV 4 (sumV (F.map (gV vs))) ∧ (F.map (gV vs)).length = 4 ∧ ∀ v ∈ F.map (gV vs), InV 1000000 v) := Lib.hid ⟨by unfold avgL; rw [wtot_ones, wsum_ones, List.length_map, h4]; rfl, by rw [List.length_map, h4], fun v hv => by obtain ⟨x, _, rfl⟩ := List.mem_map.1 hv; exact gV_in HV.out x⟩
      have HO1 := Lib.hid (made_nil3 w1 43)
      have HBX := Lib.hid ((HT1.out.alloc (.cells #[] 43)))
      have hsz : w.heap.size + 1 < w1.heap.size := (HT1.out.box 0).lt
      clear hc hle hcm hrow hfi hF h0
      go_wp2_with fail
      refine HYES.mono ?_
      rintro e w1' ⟨rfl, rfl⟩
      clear HYES r0 r1 r2 g0 g1 g2
      have hcz : (w1.alloc (.cells #[] 43)).cell? ⟨b, o + k, none⟩ = some (.slice a 4 cc) := (World.cell?_alloc_lt w1 _ ⟨b, o + k, none⟩ (show b < _ by omega)).trans hc'
      have c1' := (HBX.out.box 1).c 1
      go_wp2_with fail
      go_loopw [5, 28] (fun u i wr => ∃ k : Nat, k ≤ 4 ∧ i = .int .i64 k ∧ wr.ownsRow (w.heap.size + 2) 43 3 u k (((F.take k).map (gV vs)).flatMap vg) ∧ Held w wr [(w.heap.size + 1, [.int .i64 0, .int .i64 0, .int .i64 0]), (w.heap.size, [.slice A1 vs.length c1, .slice (some ⟨b, o, none⟩) fs.length c2])]) (fun _ i _ => 4 - (intOf i).toNat)
      case atStart => exact ⟨0, Nat.zero_le _, rfl, own_base HO1.out (by omega), HBX.out⟩
      case round =>
        clear HBX HO1 c1' c0' hc' hcz HT1
        obtain ⟨j, hj, rfl, hown, ht⟩ := hrel
        have HO := Lib.hid hown
        have HT := Lib.hid ht
        clear hown ht
        by_cases hlt : j < 4
        · have hlf : j < F.length := by omega
          obtain ⟨bi, oi, rfl, hbi, hci⟩ := HRO.out.at hlf
          have hx0 := HXI.out.2 _ (List.getElem_mem hlf)
          have HTK := Lib.hid (List.take_succ_eq_append_getElem hlf)
          obtain ⟨x, hx⟩ : ∃ x, x = F[j] := ⟨_, rfl⟩
          rw [← hx] at hci hx0
          simp only [← hx] at HTK
          clear hx
          obtain ⟨i0, rfl⟩ : ∃ n : Nat, x = (n : Int) := ⟨x.toNat, by omega⟩
          have l0 : i0 < vs.length := by omega
          obtain ⟨bv, ov, v, rfl, hbv, e0, v00, v01, v02⟩ := HIN.out.1.vecK l0
          have HG : Hid (gV vs i0 = v) := Lib.hid (by rw [gV_nat _ _ l0]; exact e0)
          have hci' := (HT.out.below.cell (p := ⟨bi, oi + j, none⟩) hbi).trans hci
          have d0 := (HT.out.below.cell (p := ⟨bv, ov + i0 * 3, none⟩) hbv).trans v00
          have d1 := (HT.out.below.cell (p := ⟨bv, ov + i0 * 3 + 1, none⟩) hbv).trans v01
          have d2 := (HT.out.below.cell (p := ⟨bv, ov + i0 * 3 + 2, none⟩) hbv).trans v02
          have c0' := (HT.out.box 1).c 0
          have p0 : (0 : Int) ≤ (i0 : Int) := by omega
          have q0 : (i0 : Int) < (vs.length : Int) := by omega
          clear hci v00 v01 v02 e0 hx0
          go_wp2_with (at_builtin; refine wpList_appN wr rfl _ _ 27 rfl (w.heap.size + 2) 43 (vec 0 0 0) 3 24 Tryz.underlying27 infoVec rfl (by omega) _ _ _ (by rfl) HO.out #[.int .i64 v.1, .int .i64 v.2.1, .int .i64 v.2.2] rfl (by rfl) (by simp [Value.oneCell']) (by have := hj; unfold maxLen; omega) (by have := hj; omega) (HT.out.box 0).lt ?_)
          intro v5 w5 ho5 hg5
          have hop : ∀ q, u5.ownBlock = some q → w.heap.size + 2 ≤ q := own_block HO.out
          have HT5 := Lib.hid (heldGrown' HT.out hg5 (fun q hq => by have := hop q hq; omega) (fun p hp c => by
            have := hop _ c.symm
            simp only [List.mem_cons, List.not_mem_nil, or_false] at hp
            rcases hp with rfl | rfl <;> simp at this <;> omega))
          have HO5 : Hid (w5.ownsRow (w.heap.size + 2) 43 3 v5 (j + 1) (((F.take (j + 1)).map (gV vs)).flatMap vg)) := Lib.hid (by
            rw [HTK.out, List.map_append, List.map_singleton, HG.out, flat_one, List.map_take]
            exact ho5)
          clear ho5 hg5 hop HO HT d0 d1 d2 c0' hci'
          go_wp2_with fail
          go_roundw
          case rel => exact ⟨j + 1, by omega, by go_num, HO5.out, HT5.out⟩
          case measure => simp [intOf]; omega
        · have e : j = 4 := by omega
          have ho := HO.out
          rw [e, List.take_of_length_le (by omega)] at ho
          obtain ⟨A5, c5, rfl⟩ := own_shape HO.out
          rw [e] at ho
          have HRV := Lib.hid (RowC.of_own vg_len ho HC0.out.2.1)
          obtain ⟨l, hl⟩ : ∃ l, l = F.map (gV vs) := ⟨_, rfl⟩
          rw [← hl] at HRV HC0 HE
          have hll := HC0.out.2.1
          subst e
          have HSM := sSum_any A5 c5 l wr HRV.out (by omega) (fun v hv => (HC0.out.2.2 v hv).mono (by decide))
          rw [hll] at HSM
          have hsb := (sumV_bd (m := 1000000) (by decide) HC0.out.2.2).mono (n := 8192000000000) (by rw [hll]; decide)
          have HDV := Lib.hid HC0.out.1
          obtain ⟨s, hs⟩ : ∃ s, s = sumV l := ⟨_, rfl⟩
          rw [← hs] at HSM hsb HDV
          have HSB := Lib.hid hsb
          clear hl hll hs ho hsb HRV
          go_wp2_with fail
          refine HSM.mono ?_
          rintro e w2 ⟨rfl, hb2⟩
          have HT2 := Lib.hid (HT.out.later hb2)
          clear hb2 HSM HT HO
          go_wp2_with fail
          refine (sBy_any s 4 _ HSB.out).mono ?_
          rintro e w3 ⟨rfl, hb3⟩
          have HT3 := Lib.hid (HT2.out.later hb3)
          clear hb3 HT2
          have r0 := (HT3.out.box 0).c 0
          have g0 := (HT3.out.box 0).f 0
          have r1 := (HT3.out.box 0).c 1
          have g1 := (HT3.out.box 0).f 1
          have r2 := (HT3.out.box 0).c 2
          have g2 := (HT3.out.box 0).f 2
          have c0' := (HT3.out.box 1).c 0
          have c1' := (HT3.out.box 1).c 1
          go_wp2_with fail
          exact bodyPost_ret (v := vec (divV 4 s).1 (divV 4 s).2.1 (divV 4 s).2.2) (by simp [results, Tryz.results20, go_sem, r0, r1, r2]) rfl ⟨by rw [HE.out, HDV.out], bset3 HT3.out.below (by omega)⟩
    · have HNO := inV_no f 0 ((fs.length : Int) - 1) w1 h0
      have HE : Hid (fpL vs fs f = (0, 0, 0)) := Lib.hid (by unfold fpL; rw [if_neg (by omega)])
      clear h0
      go_wp2_with fail
      refine HNO.mono ?_
      rintro e w1' ⟨rfl, rfl⟩
      go_wp2_with fail
      exact bodyPost_ret (v := vec 0 0 0) (by simp [results, Tryz.results20, go_sem, r0, r1, r2]) rfl ⟨by rw [HE.out], bset3 HT1.out.below (by omega)⟩


end Go.Proofs.YtdefhepagpgnaaaGreat
