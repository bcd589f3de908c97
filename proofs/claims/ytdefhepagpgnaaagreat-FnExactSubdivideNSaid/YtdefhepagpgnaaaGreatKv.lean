/- Contracts of VertexPoint, in the program. -/
import Derived.Test.YtdefhepagpgnaaaGreatProg
import Derived.Test.YtdefhepagpgnaaaGreatInts
import Derived.Test.YtdefhepagpgnaaaGreatVbox
import Derived.Test.YtdefhepagpgnaaaGreatVec
import Derived.Test.YtdefhepagpgnaaaGreatHeld
import Derived.Test.YtdefhepagpgnaaaGreatMem
import Derived.Test.YtdefhepagpgnaaaGreatRowC
import Derived.Test.YtdefhepagpgnaaaGreatIntS
import Derived.Test.YtdefhepagpgnaaaGreatVecS
import Derived.Test.YtdefhepagpgnaaaGreatSS
import Derived.Test.YtdefhepagpgnaaaGreatMkA
import Derived.Test.YtdefhepagpgnaaaGreatMkB
import Derived.Test.YtdefhepagpgnaaaGreatMkC
import Derived.Test.YtdefhepagpgnaaaGreatMkD
import Derived.Test.YtdefhepagpgnaaaGreatMF
import Derived.Test.YtdefhepagpgnaaaGreatMG
import Derived.Test.YtdefhepagpgnaaaGreatMH
import Derived.Test.YtdefhepagpgnaaaGreatMV
import Derived.Test.YtdefhepagpgnaaaGreatMVF
import Derived.Test.YtdefhepagpgnaaaGreatMNb
import Derived.Test.YtdefhepagpgnaaaGreatMB
import Derived.Test.YtdefhepagpgnaaaGreatMBd
import Derived.Test.YtdefhepagpgnaaaGreatMLw
import Derived.Test.YtdefhepagpgnaaaGreatMEF
import Derived.Test.YtdefhepagpgnaaaGreatKp
import Derived.Test.YtdefhepagpgnaaaGreatKb
import Derived.Test.YtdefhepagpgnaaaGreatKc
import Derived.Test.YtdefhepagpgnaaaGreatKa
import Derived.Test.YtdefhepagpgnaaaGreatKt
import Derived.WalkKit
import Derived.WalkSpells
import Derived.WalkLawsBesides
import Derived.Lib.Hide
import Derived.Deep.RegionHeld3
import Derived.Deep.QuietTactic
import Derived.BigQuiet
import Derived.Handy
import Derived.Deep.DeepCutAuto
import Derived.OwnWalk
import Derived.Deep.AppendLies
namespace Go.Proofs.YtdefhepagpgnaaaGreat
open Go.RowKit

theorem RowC.news {w : World} {B g off : Nat} {us : List V3} (hc : RowC 3 vg w B (some ⟨g, off, none⟩) us) : ∀ j y, (us.flatMap vg)[j]? = some y → w.cell? ((⟨g, off, none⟩ : Addr).add j) = some y := by
  intro j y hj
  have hj1 := (List.getElem?_eq_some_iff.1 hj).1
  rw [flat_len vg_len] at hj1
  have hk : j / 3 < us.length := by omega
  obtain ⟨b1, o1, e1, _, hcell⟩ := hc.at hk
  simp only [Option.some.injEq, Addr.mk.injEq, and_true] at e1
  obtain ⟨rfl, rfl⟩ := e1
  rw [Addr.add_mid]
  have hg := flat_get vg_len us (j / 3) (j % 3) hk (by omega)
  have ej : j / 3 * 3 + j % 3 = j := by omega
  rw [ej, hj] at hg
  have := hcell (j % 3) y hg.symm
  rwa [show off + j / 3 * 3 + j % 3 = off + j by omega] at this
theorem flat_cells (us : List V3) : ∀ u ∈ us.flatMap vg, u.oneCell' = true := by
  intro u hu
  obtain ⟨p, _, hp⟩ := List.mem_flatMap.1 hu
  simp only [vg, List.mem_cons, List.not_mem_nil, or_false] at hp
  rcases hp with rfl | rfl | rfl <;> rfl
theorem two_of' {α : Type} : ∀ {l : List α}, l.length = 2 → ∃ a b, l = [a, b]
  | [a, b], _ => ⟨a, b, rfl⟩
theorem row1_of {w : World} {g : Nat} {x : Int} (h : w.cell? ⟨g, 0, none⟩ = some (.int .i64 x)) : Row I64 w w.heap.size (some ⟨g, 0, none⟩) [x] := fun _ => ⟨g, 0, rfl, World.block_lt_of_cell? w _ h, fun k hk => by
  simp only [List.length_cons, List.length_nil, Nat.zero_add, Nat.lt_one_iff] at hk
  subst hk
  exact h⟩
theorem row3_of {w : World} {g : Nat} {x y z : Int} (h : w.cell? ⟨g, 0, none⟩ = some (.int .i64 x)) (h1 : w.cell? ⟨g, 1, none⟩ = some (.int .i64 y)) (h2 : w.cell? ⟨g, 2, none⟩ = some (.int .i64 z)) : Row I64 w w.heap.size (some ⟨g, 0, none⟩) [x, y, z] := fun _ => ⟨g, 0, rfl, World.block_lt_of_cell? w _ h, fun k hk => by
  rw [Nat.zero_add]
  match k, hk with
  | 0, _ => exact h
  | 1, _ => exact h1
  | 2, _ => exact h2⟩
set_option maxRecDepth 100000 in
set_option maxHeartbeats 16000000 in
theorem innerPoint_any (A1 A2 : Option Addr) (c1 c2 : Nat) (vs : List V3) (fs : List (List Int)) (v : Nat) (B : Option Addr) (cb : Nat) (w : World) (hR : MeshIn w A1 A2 vs fs) (hf : MeshFits vs fs) (hok : okMesh vs fs = true) (hv : v < vs.length) (hrim : rimL vs fs v = []) (hn : vertF vs fs v ≠ []) (hB : Row I64 w w.heap.size B (vertF vs fs v)) :
    Calls Tryz.prog 64 #[mv A1 A2 vs.length c1 fs.length c2, .int .i64 v, .slice B (vertF vs fs v).length cb] w (VecOut (avgL (inL vs fs v)).1 (avgL (inL vs fs v)).2.1 (avgL (inL vs fs v)).2.2 w) := by
  have HOK := Lib.hid hok
  have HFM := Lib.hid (fun i (h : i ∈ vertF vs fs v) => vertF_mem h)
  have HFL := Lib.hid (vertF_len64 vs fs v)
  have HCT := Lib.hid (nb_count hok v hrim)
  have HNM := Lib.hid (fun i (h : i ∈ nbM vs fs v) => nbM_in h)
  have HVI := Lib.hid (fun i => gV_in (ok_vec hok) i)
  have HFI := Lib.hid (fun i (h : i ∈ vertF vs fs v) => fpI_in hok (vertF_mem h).1 (vertF_mem h).2)
  have HINL : Hid (inL vs fs v = wl (gV vs v :: ((vertF vs fs v).map (fpI vs fs) ++ (nbM vs fs v).map (gV vs))) [((vertF vs fs v).length : Int) + ((vertF vs fs v).length : Int) * (((vertF vs fs v).length : Int) - 3)]) := Lib.hid (by rw [wl_one]; rfl)
  have HNBC := fun (W : World) (h : MeshIn W A1 A2 vs fs) => neighbors_any A1 A2 c1 c2 vs fs v W h hf
  have HRB := Lib.hid hB
  obtain ⟨F, hF⟩ : ∃ F, F = vertF vs fs v := ⟨_, rfl⟩
  obtain ⟨N, hN⟩ : ∃ N, N = nbM vs fs v := ⟨_, rfl⟩
  rw [← hF] at hn HRB HFM HFL HCT HFI HINL ⊢
  rw [← hN] at HCT HNM HINL HNBC
  have hF0 : 0 < F.length := List.length_pos_iff.2 hn
  have hN0 : 0 < N.length := by have := HCT.out; omega
  have HNB := Lib.hid HNBC
  clear hB hF hN hok hrim hn HNBC
  have HIN := Lib.hid hR
  have HF := Lib.hid hf
  have HT0 : Held w ((w.alloc (.cells #[.slice A1 vs.length c1, .slice A2 fs.length c2] 29)).alloc (.cells #[.int .i64 0, .int .i64 0, .int .i64 0] 43)) [(w.heap.size + 1, [.int .i64 0, .int .i64 0, .int .i64 0]), (w.heap.size, [.slice A1 vs.length c1, .slice A2 fs.length c2])] := by
    have h := ((Held.nil w).new #[.slice A1 vs.length c1, .slice A2 fs.length c2] 29).new #[.int .i64 0, .int .i64 0, .int .i64 0] 43
    simpa only [World.size_alloc] using h
  have HI : ∀ {bs : List (Nat × List Value)} (W : World), Held w W bs → MeshIn W A1 A2 vs fs := fun W h => ⟨(HIN.out.1.below h.below).more h.size, (HIN.out.2.below h.below).more h.size⟩
  have HT := Lib.hid HT0
  clear hR hf HT0
  have HBX := Lib.hid (HT.out.alloc (.cells #[.int .i64 (v : Int)] 3))
  obtain ⟨W0, hW0⟩ : ∃ W0, W0 = (w.alloc (.cells #[.slice A1 vs.length c1, .slice A2 fs.length c2] 29)).alloc (.cells #[.int .i64 0, .int .i64 0, .int .i64 0] 43) := ⟨_, rfl⟩
  have hz0 : W0.heap.size = w.heap.size + 2 := by rw [hW0]; simp
  have HVA : Calls Tryz.prog 63 #[mv A1 A2 vs.length c1 fs.length c2, .slice (some ⟨W0.heap.size, 0, none⟩) 1 1] (W0.alloc (.cells #[.int .i64 (v : Int)] 3)) (VsOut _ [gV vs v]) :=
    verticesAt_any A1 A2 c1 c2 vs fs (some ⟨W0.heap.size, 0, none⟩) 1 [(v : Int)] _ (HI _ (by rw [hW0]; exact HBX.out)) HF.out (row1_of (by simp [go_sem])) (by simp) (fun z hz => by simp only [List.mem_cons, List.not_mem_nil, or_false] at hz; subst hz; omega)
  rw [hz0] at HVA
  have c0' := (HT.out.box 1).c 0
  have c1' := (HT.out.box 1).c 1
  rw [hW0] at HVA
  have hzW : (((w.alloc (.cells #[.slice A1 vs.length c1, .slice A2 fs.length c2] 29)).alloc (.cells #[.int .i64 0, .int .i64 0, .int .i64 0] 43)).alloc (.cells #[.int .i64 (v : Int)] 3)).heap.size = w.heap.size + 3 := by simp
  clear hW0 hz0
  go_enter Tryz.func64, Tryz.ntmps64
  go_wp2_with fail
  refine HVA.mono ?_
  rintro e w2 hv2
  obtain ⟨bp, op, cp, rfl, ho2, _, hb2⟩ := hv2.some (by simp)
  have HT2 := Lib.hid (HBX.out.later hb2)
  have HO2 := Lib.hid (own_base (base' := w.heap.size + 2) ho2 (by rw [hzW]; omega))
  have HRO2 := Lib.hid ((HRB.out.below HT2.out.below).more HT2.out.size)
  have hz2 : w.heap.size + 3 ≤ w2.heap.size := by have := hb2.size; rw [hzW] at this; exact this
  simp only [List.length_cons, List.length_nil, Nat.zero_add] at HO2 ⊢
  clear hb2 hv2 ho2 HVA HBX HT c0' c1' HRB hzW
  have c0' := (HT2.out.box 1).c 0
  have c1' := (HT2.out.box 1).c 1
  have HFP := facePoints_any A1 A2 c1 c2 vs fs B cb F w2 (HI _ HT2.out) HF.out HOK.out HRO2.out (by have := HFL.out; omega) HFM.out
  go_wp2_with fail
  refine HFP.mono ?_
  rintro e w3 hv3
  obtain ⟨bq, oq, cq, rfl, _, hr3, hb3⟩ := hv3.some (by simpa using hF0)
  have HT3 := Lib.hid (HT2.out.later hb3)
  have HO3 := Lib.hid (own_keep' HO2.out hb3)
  have HR3 := Lib.hid hr3
  have hz3 : w.heap.size + 3 ≤ w3.heap.size := Nat.le_trans hz2 hb3.size
  have hfl := HFL.out
  clear hb3 hv3 hr3 HFP HO2 HT2 HRO2 c0' c1'
  rw [List.length_map]
  go_wp2_with (at_builtin; refine wpList_appV w3 rfl _ _ 27 rfl (w.heap.size + 2) 43 (vec 0 0 0) 24 Tryz.underlying27 infoVec rfl _ 1 _ (by rfl) HO3.out bq oq F.length cq _ (F.map (fpI vs fs)) (by rfl) (by simp) HR3.out (by unfold maxLen; omega) (by omega) (by omega) ?_)
  intro v8 w8 ho8 hg8
  have hgb : ∀ q, (Value.slice (some ⟨bp, op, none⟩) 1 cp).ownBlock = some q → w.heap.size + 2 ≤ q := own_block HO3.out
  have HT8 := Lib.hid (heldGrown' HT3.out hg8 (fun q hq => by have h1 := hgb q hq; omega) (fun p hp c => by
    have h1 := hgb _ c.symm
    simp only [List.mem_cons, List.not_mem_nil, or_false] at hp
    rcases hp with rfl | rfl <;> simp at h1 <;> omega))
  have hz8 : w.heap.size + 3 ≤ w8.heap.size := Nat.le_trans hz3 hg8.size
  obtain ⟨A8, c8, rfl⟩ := own_shape ho8
  have hf8 : vg (gV vs v) ++ (F.map (fpI vs fs)).flatMap vg = (gV vs v :: F.map (fpI vs fs)).flatMap vg := rfl
  have ho8' : w8.ownsRow (w.heap.size + 2) 43 3 (.slice A8 (1 + F.length) c8) (1 + F.length) ((gV vs v :: F.map (fpI vs fs)).flatMap vg) := ho8
  have HO := ho8'
  have hop : ∀ q, (Value.slice A8 (1 + F.length) c8).ownBlock = some q → w.heap.size + 2 ≤ q := own_block HO
  have HT := HT8.out
  have HC : ∀ W, Held w W [(w.heap.size, [.slice A1 vs.length c1, .slice A2 fs.length c2])] → (W.cell? ⟨w.heap.size, 0, none⟩ = some (.slice A1 vs.length c1) ∧ W.cell? ⟨w.heap.size, 1, none⟩ = some (.slice A2 fs.length c2)) := fun W h => ⟨(h.box 0).c 0, (h.box 0).c 1⟩
  obtain ⟨i9, hi9, hz90, hz91, hz92⟩ := info_parts infoVec
  have HVN := Lib.hid (fun (A9 : Option Addr) (c9 : Nat) (W : World) (h : MeshIn W A1 A2 vs fs) (h2 : Row I64 W W.heap.size A9 N) => verticesAt_any A1 A2 c1 c2 vs fs A9 c9 N W h HF.out h2 (by have := HCT.out; omega) HNM.out)
  have HNL : Hid (N.length = F.length) := HCT
  clear ho8 ho8' hg8 hgb HO3 HT3 HR3 hf8 HIN
  go_upto_region 4 with fail
  go_cut [8] (fun z wx => ∃ g c, z = .slice (some ⟨g, 0, none⟩) (1 + F.length + N.length) c ∧ wx.ownsRow (w.heap.size + 2) 43 3 z (1 + F.length + N.length) ((gV vs v :: F.map (fpI vs fs)).flatMap vg ++ (N.map (gV vs)).flatMap vg) ∧ Held w wx [(w.heap.size + 1, [.int .i64 0, .int .i64 0, .int .i64 0]), (w.heap.size, [.slice A1 vs.length c1, .slice A2 fs.length c2])])
  case first =>
    clear HT8
    go_region_held3 (fun W => W.cell? ⟨w.heap.size, 0, none⟩ = some (.slice A1 vs.length c1) ∧ W.cell? ⟨w.heap.size, 1, none⟩ = some (.slice A2 fs.length c2))
      (first | exact HC _ (heldGrown' HT hgrow (fun q hq => by have h1 := hop q hq; omega) (fun p hp c => by
          have h1 := hop _ c.symm
          simp only [List.mem_cons, List.not_mem_nil, or_false] at hp
          rcases hp with rfl | rfl <;> simp at h1 <;> omega)).tail | exact HC _ HT.tail | exact HC _ HT.drew.tail)
      (first | (go_at_call 84; refine (HNB.out _ (by first | with_reducible exact HI _ HT | with_reducible exact HI _ HT.drew)).mono ?_; rintro e w6 ⟨A9, c9, rfl, ho6, hb1⟩; (first | (have HO := own_keep' HO hb1) | (have HO := own_keep' HO.drew hb1)); (first | (have HT := HT.later hb1) | (have HT := HT.drew.later hb1)); have HRN := Row.of_own ho6) | (go_at_call 63; refine (HVN.out A9 c9 _ (by first | with_reducible exact HI _ HT | with_reducible exact HI _ HT.drew) (by first | with_reducible exact HRN | with_reducible exact HRN.drew)).mono ?_; rintro e w7 hv7; obtain ⟨bn, on, cn, rfl, _, hrn, hb1⟩ := hv7.some (by simpa using hN0); (first | (have HO := own_keep' HO hb1) | (have HO := own_keep' HO.drew hb1)); (first | (have HT := HT.later hb1) | (have HT := HT.drew.later hb1))) | (refine step_append_lies _ (by rfl) _ _ _ (by rfl) (w.heap.size + 2) 43 i9 _ 3 24 Tryz.underlying27 hi9 hz90 hz91 hz92 rfl (by omega) (.slice A8 (1 + F.length) c8) (1 + F.length) _ (by rfl) (by first | with_reducible exact HO | with_reducible exact HO.drew) ⟨bn, on, none⟩ N.length cn ((N.map (gV vs)).flatMap vg) (by first | rfl | simp) (by rw [flat_len vg_len, List.length_map]) (by first | exact hrn.news | exact RowC.news (w := World.drew _) hrn) (flat_cells _) hN0 (by have := HNL.out; unfold maxLen; omega) (by have := HNL.out; omega) (by have := HT.size; have := (HT.box 0).lt; omega) _ rfl ?_; intro gg cap w5 hown5 hgrow hat hlt5))
    all_goals (go_wp2_with fail; go_meet)
    all_goals exact ⟨gg, cap, rfl, hown5, heldGrown' HT hgrow (fun q hq => by have h1 := hop q hq; omega) (fun p hp c => by
      have h1 := hop _ c.symm
      simp only [List.mem_cons, List.not_mem_nil, or_false] at hp
      rcases hp with rfl | rfl <;> simp at h1 <;> omega)⟩
  case rest =>
    obtain ⟨g5, c5, rfl, ho5, ht5⟩ := hcut
    have HT5 := Lib.hid ht5
    have hz5 : w.heap.size + 2 ≤ wc.heap.size := by have h1 := HT5.out.size; have h2 := (HT5.out.box 0).lt; omega
    have hlen : (gV vs v :: (F.map (fpI vs fs) ++ N.map (gV vs))).length = 1 + F.length + N.length := by simp; omega
    have ho5' : wc.ownsRow (w.heap.size + 2) 43 3 (.slice (some ⟨g5, 0, none⟩) (1 + F.length + N.length) c5) (1 + F.length + N.length) ((gV vs v :: (F.map (fpI vs fs) ++ N.map (gV vs))).flatMap vg) := by
      have h := ho5
      rw [← List.flatMap_append] at h
      exact h
    have HR5 := Lib.hid (RowC.of_own vg_len ho5' hlen)
    have HPB : Hid (∀ x ∈ gV vs v :: (F.map (fpI vs fs) ++ N.map (gV vs)), InV 1000000 x) := Lib.hid (fun x hx => by
      rcases List.mem_cons.1 hx with rfl | hx
      · exact HVI.out _
      · rcases List.mem_append.1 hx with hx | hx
        · obtain ⟨i, hi, rfl⟩ := List.mem_map.1 hx; exact HFI.out i hi
        · obtain ⟨i, _, rfl⟩ := List.mem_map.1 hx; exact HVI.out i)
    obtain ⟨n, hn⟩ : ∃ n : Int, n = (F.length : Int) := ⟨_, rfl⟩
    have hnb : 0 ≤ n ∧ n ≤ 64 := by omega
    have hmb := mul_bd (a := n) (b := n - 3) (m := 64) (n := 61) (by omega) (by omega)
    have e1 := wrap_in (a := n - 3) (by omega)
    have e2 := wrap_in (a := n * (n - 3)) (by omega)
    have e3 := wrap_in (a := n + n * (n - 3)) (by omega)
    rw [← hn] at HINL ⊢
    obtain ⟨k, hk⟩ : ∃ k, k = n + n * (n - 3) := ⟨_, rfl⟩
    have e3' : IntKind.i64.wrap (n + n * (n - 3)) = k := by rw [hk]; exact e3
    have HKB : Hid (-4096 ≤ k ∧ k ≤ 4096) := Lib.hid (by rw [hk]; omega)
    rw [← hk] at HINL
    have hll : 1 + F.length + N.length ≤ 1000 := by have := HNL.out; omega
    clear e3 hk hmb hn hnb
    have HT6 := Lib.hid (HT5.out.alloc (.cells #[.int .i64 k] 3))
    have hr6 : Row I64 (wc.alloc (.cells #[.int .i64 k] 3)) (wc.alloc (.cells #[.int .i64 k] 3)).heap.size (some ⟨wc.heap.size, 0, none⟩) [k] := row1_of (by simp [go_sem])
    have hp6 := rcAlloc HR5.out (.cells #[.int .i64 k] 3)
    obtain ⟨l, hl⟩ : ∃ l, l = gV vs v :: (F.map (fpI vs fs) ++ N.map (gV vs)) := ⟨_, rfl⟩
    rw [← hl] at HINL HPB hlen hp6
    have HAV : Calls Tryz.prog 62 #[.slice (some ⟨g5, 0, none⟩) (1 + F.length + N.length) c5, .slice (some ⟨wc.heap.size, 0, none⟩) 1 1] (wc.alloc (.cells #[.int .i64 k] 3)) (VecOut (avgL (inL vs fs v)).1 (avgL (inL vs fs v)).2.1 (avgL (inL vs fs v)).2.2 (wc.alloc (.cells #[.int .i64 k] 3))) := by
      have h := average_any (some ⟨g5, 0, none⟩) (some ⟨wc.heap.size, 0, none⟩) c5 1 l [k] _ hp6 hr6 (by omega) (by simp) (wl_bd (fun x hx => by rw [List.mem_singleton] at hx; rw [hx]; exact HKB.out) HPB.out)
      rw [hlen, ← HINL.out] at h
      exact h
    obtain ⟨R, hR⟩ : ∃ R, R = avgL (inL vs fs v) := ⟨_, rfl⟩
    have HRR := Lib.hid hR
    rw [← hR] at HAV
    clear hl hR hr6 hp6 ho5 ho5' ht5 hlen HR5 HO HT HC hop
    go_wp2_with fail
    refine HAV.mono ?_
    rintro e w9 ⟨rfl, hb9⟩
    have HT9 := Lib.hid (HT6.out.later hb9)
    clear hb9 HT6 HAV e1 e2 e3'
    have r0 := (HT9.out.box 0).c 0
    have g0 := (HT9.out.box 0).f 0
    have r1 := (HT9.out.box 0).c 1
    have g1 := (HT9.out.box 0).f 1
    have r2 := (HT9.out.box 0).c 2
    have g2 := (HT9.out.box 0).f 2
    have c0' := (HT9.out.box 1).c 0
    have c1' := (HT9.out.box 1).c 1
    go_wp2_with fail
    exact bodyPost_ret (v := vec R.1 R.2.1 R.2.2) (by simp [results, Tryz.results64, go_sem, r0, r1, r2]) rfl ⟨by rw [HRR.out], bset3 HT9.out.below (by omega)⟩

set_option maxRecDepth 100000 in
set_option maxHeartbeats 16000000 in
theorem vertexPoint_any (A1 A2 : Option Addr) (c1 c2 : Nat) (vs : List V3) (fs : List (List Int)) (v : Int) (w : World) (hR : MeshIn w A1 A2 vs fs) (hf : MeshFits vs fs) :
    Calls Tryz.prog 26 #[mv A1 A2 vs.length c1 fs.length c2, .int .i64 v] w (VecOut (vpL vs fs v).1 (vpL vs fs v).2.1 (vpL vs fs v).2.2 w) := by
  have HIN := Lib.hid hR
  have HF := Lib.hid hf
  have HT0 : Held w ((w.alloc (.cells #[.slice A1 vs.length c1, .slice A2 fs.length c2] 29)).alloc (.cells #[.int .i64 0, .int .i64 0, .int .i64 0] 43)) [(w.heap.size + 1, [.int .i64 0, .int .i64 0, .int .i64 0]), (w.heap.size, [.slice A1 vs.length c1, .slice A2 fs.length c2])] := by
    have h := ((Held.nil w).new #[.slice A1 vs.length c1, .slice A2 fs.length c2] 29).new #[.int .i64 0, .int .i64 0, .int .i64 0] 43
    simpa only [World.size_alloc] using h
  have HI : ∀ {bs : List (Nat × List Value)} (W : World), Held w W bs → MeshIn W A1 A2 vs fs := fun W h => ⟨(HIN.out.1.below h.below).more h.size, (HIN.out.2.below h.below).more h.size⟩
  have HT := Lib.hid HT0
  clear hR hf HT0
  obtain ⟨ok, hok⟩ : ∃ ok, ok = okMesh vs fs := ⟨_, rfl⟩
  have HOK := Lib.hid hok
  have HC := isValidMesh_any A1 A2 c1 c2 vs fs _ (HI _ HT.out) HF.out
  rw [← hok] at HC
  clear hok
  have c0' := (HT.out.box 1).c 0
  have c1' := (HT.out.box 1).c 1
  go_enter Tryz.func26, Tryz.ntmps26
  go_wp2_with fail
  refine HC.mono ?_
  rintro e w1 ⟨rfl, hb1⟩
  have HT1 := Lib.hid (HT.out.later hb1)
  clear hb1 HT c0' c1' HC
  have r0 := (HT1.out.box 0).c 0
  have g0 := (HT1.out.box 0).f 0
  have r1 := (HT1.out.box 0).c 1
  have g1 := (HT1.out.box 0).f 1
  have r2 := (HT1.out.box 0).c 2
  have g2 := (HT1.out.box 0).f 2
  have c0' := (HT1.out.box 1).c 0
  have c1' := (HT1.out.box 1).c 1
  cases ok
  · have HE : Hid (vpL vs fs v = (0, 0, 0)) := Lib.hid (by unfold vpL; rw [if_neg (by rw [← HOK.out]; simp)])
    go_wp2_with fail
    exact bodyPost_ret (v := vec 0 0 0) (by simp [results, Tryz.results26, go_sem, r0, r1, r2]) rfl ⟨by rw [HE.out], bset3 HT1.out.below (by omega)⟩
  · by_cases h0 : v < 0
    · have hd0 : decide (v < 0) = true := by simpa using h0
      have HE : Hid (vpL vs fs v = (0, 0, 0)) := Lib.hid (by unfold vpL; rw [if_neg (by omega)])
      go_wp2_with fail
      exact bodyPost_ret (v := vec 0 0 0) (by simp [results, Tryz.results26, go_sem, r0, r1, r2]) rfl ⟨by rw [HE.out], bset3 HT1.out.below (by omega)⟩
    · have hd0 : decide (v < 0) = false := by simpa using h0
      by_cases h1 : (vs.length : Int) ≤ v
      · have hd1 : decide (v ≥ (vs.length : Int)) = true := by simpa using h1
        have HE : Hid (vpL vs fs v = (0, 0, 0)) := Lib.hid (by unfold vpL; rw [if_neg (by omega)])
        go_wp2_with fail
        exact bodyPost_ret (v := vec 0 0 0) (by simp [results, Tryz.results26, go_sem, r0, r1, r2]) rfl ⟨by rw [HE.out], bset3 HT1.out.below (by omega)⟩
      · have hd1 : decide (v ≥ (vs.length : Int)) = false := by simpa using h1
        obtain ⟨k, rfl⟩ : ∃ n : Nat, v = (n : Int) := ⟨v.toNat, by omega⟩
        have hkl : ¬ vs.length ≤ k := by omega
        have hkl2 : k < vs.length := by omega
        have hki : (k : Int) < (vs.length : Int) := by omega
        have hk0 : (0 : Int) ≤ (k : Int) := by omega
        have HE := Lib.hid (show vpL vs fs k = if (rimL vs fs k).length = 2 then avgL ((6, gV vs k) :: ones ((rimL vs fs k).map (gV vs))) else if rimL vs fs k ≠ [] ∨ vertF vs fs k = [] then gV vs k else avgL (inL vs fs k) by unfold vpL; rw [if_pos ⟨HOK.out.symm, by omega, by omega⟩])
        have HFL := Lib.hid (vertF_len64 vs fs k)
        have HRL := Lib.hid (rim_len vs fs k)
        have HRI := Lib.hid (fun i (h : i ∈ rimL vs fs k) => rim_in h)
        have HVI := Lib.hid (fun i => gV_in (ok_vec HOK.out.symm) i)
        have HIP := Lib.hid (fun (B : Option Addr) (cb : Nat) (W : World) (h : MeshIn W A1 A2 vs fs) (hr : rimL vs fs k = []) (hn : vertF vs fs k ≠ []) (hB : Row I64 W W.heap.size B (vertF vs fs k)) => innerPoint_any A1 A2 c1 c2 vs fs k B cb W h HF.out HOK.out.symm hkl2 hr hn hB)
        have HVF := vertexFaces_any A1 A2 c1 c2 vs fs k w1 (HI _ HT1.out) HF.out
        have HOE := Lib.hid (fun (A : Option Addr) (c : Nat) (W : World) (h : RowSS W W.heap.size A ((bdL vs fs).map pr)) => otherEnds_any A c (bdL vs fs) k W h (bdL_len vs fs))
        have HBE := Lib.hid (fun (W : World) (h : MeshIn W A1 A2 vs fs) => boundary_any A1 A2 c1 c2 vs fs W h HF.out)
        have HVP : Hid (∃ b o p, A1 = some ⟨b, o, none⟩ ∧ b < w.heap.size ∧ gV vs k = p ∧ w.cell? ⟨b, o + k * 3, none⟩ = some (.int .i64 p.1) ∧ w.cell? ⟨b, o + k * 3 + 1, none⟩ = some (.int .i64 p.2.1) ∧ w.cell? ⟨b, o + k * 3 + 2, none⟩ = some (.int .i64 p.2.2)) := Lib.hid (by rw [gV_nat _ _ hkl2]; exact HIN.out.1.vecK hkl2)
        obtain ⟨F, hF⟩ : ∃ F, F = vertF vs fs k := ⟨_, rfl⟩
        obtain ⟨R, hR⟩ : ∃ R, R = rimL vs fs k := ⟨_, rfl⟩
        unfold rimL at hR
        have HRR := Lib.hid hR
        rw [show nbL k (bdL vs fs) = rimL vs fs k from rfl] at hR
        rw [← hF] at HE HIP HVF HFL
        rw [← hR] at HE HIP HRL HRI
        rw [← HRR.out] at HOE
        clear hF hR h0 HRR
        go_wp2_with fail
        refine HVF.mono ?_
        rintro e w2 ⟨A5, c5, rfl, ho2, hb2⟩
        have HT2 := Lib.hid (HT1.out.later hb2)
        have HRF := Lib.hid (Row.of_own ho2)
        clear r0 r1 r2 g0 g1 g2 c0' c1' hb2 ho2 HVF HT1
        have c0' := (HT2.out.box 1).c 0
        have c1' := (HT2.out.box 1).c 1
        go_wp2_with fail
        refine (HBE.out _ (HI _ HT2.out)).mono ?_
        rintro e w3 hss
        obtain ⟨A6, c6, ps, rfl, hps, hown, hb3⟩ := hss.own
        have hr := hown.rowSS (fun p hp => by
          have : p.2 ∈ (bdL vs fs).map pr := by rw [← hps]; exact List.mem_map.2 ⟨p, hp, rfl⟩
          obtain ⟨e, _, he⟩ := List.mem_map.1 this
          rw [← he]; simp [pr]; unfold maxLen; omega)
        rw [hps] at hr
        have HRS := Lib.hid hr
        have HT3 := Lib.hid (HT2.out.later hb3)
        have HRF3 := Lib.hid (HRF.out.later hb3)
        clear hb3 hss hps hown hr HT2 c0' c1' HRF
        rw [List.length_map]
        go_wp2_with fail
        refine (HOE.out A6 c6 _ HRS.out).mono ?_
        rintro e w4 ⟨A7, c7, rfl, ho4, hb4⟩
        have HT4 := Lib.hid (HT3.out.later hb4)
        have HRF4 := Lib.hid (HRF3.out.later hb4)
        have HO4 := Lib.hid ho4
        have hz3 : w.heap.size + 1 < w3.heap.size := (HT3.out.box 0).lt
        clear hb4 ho4 HRS HT3 HRF3 HOE HBE
        have r0 := (HT4.out.box 0).c 0
        have g0 := (HT4.out.box 0).f 0
        have r1 := (HT4.out.box 0).c 1
        have g1 := (HT4.out.box 0).f 1
        have r2 := (HT4.out.box 0).c 2
        have g2 := (HT4.out.box 0).f 2
        have c0' := (HT4.out.box 1).c 0
        have c1' := (HT4.out.box 1).c 1
        by_cases hr2 : R.length = 2
        · rw [if_pos hr2] at HE
          obtain ⟨j0, j1, rfl⟩ : ∃ j0 j1, R = [j0, j1] := two_of' hr2
          obtain ⟨g7, rfl, hg7⟩ : ∃ g, A7 = some ⟨g, 0, none⟩ ∧ w3.heap.size ≤ g := by
            rcases HO4.out.2 with ⟨_, h⟩ | ⟨g, cap, cur, h, hb, _⟩
            · simp at h
            · injection h with h; exact ⟨g, h, hb⟩
          have HM7 := Mbox.of_own HO4.out
          have HT : Held w w4 [(w.heap.size + 1, [.int .i64 0, .int .i64 0, .int .i64 0]), (w.heap.size, [.slice A1 vs.length c1, .slice A2 fs.length c2]), (g7, [.int .i64 j0, .int .i64 j1])] := (HT4.out.cons HM7).pick (by simp)
          have HC : ∀ W, Held w W [(w.heap.size, [.slice A1 vs.length c1, .slice A2 fs.length c2]), (g7, [.int .i64 j0, .int .i64 j1])] → (W.cell? ⟨w.heap.size, 0, none⟩ = some (.slice A1 vs.length c1) ∧ W.cell? ⟨w.heap.size, 1, none⟩ = some (.slice A2 fs.length c2) ∧ W.cell? ⟨g7, 0, none⟩ = some (.int .i64 j0) ∧ W.cell? ⟨g7, 1, none⟩ = some (.int .i64 j1)) := fun W h => ⟨(h.box 0).c 0, (h.box 0).c 1, (h.box 1).c 0, (h.box 1).c 1⟩
          have hj0 := HRI.out j0 (by simp)
          have hj1 := HRI.out j1 (by simp)
          have HVA := Lib.hid (fun (G c : Nat) (W : World) (h : MeshIn W A1 A2 vs fs) (h2 : Row I64 W W.heap.size (some ⟨G, 0, none⟩) [(k : Int), j0, j1]) => (show Calls Tryz.prog 63 #[mv A1 A2 vs.length c1 fs.length c2, .slice (some ⟨G, 0, none⟩) 3 c] W (VsOut W [gV vs k, gV vs j0, gV vs j1]) from verticesAt_any A1 A2 c1 c2 vs fs (some ⟨G, 0, none⟩) c [(k : Int), j0, j1] W h HF.out h2 (by simp) (fun z hz => by
            simp only [List.mem_cons, List.not_mem_nil, or_false] at hz
            rcases hz with rfl | rfl | rfl
            · exact ⟨hk0, hki⟩
            · exact hj0
            · exact hj1)))
          have HEV : Hid (vpL vs fs k = avgL (wl [gV vs k, gV vs j0, gV vs j1] [6])) := Lib.hid (by rw [wl_one]; exact HE.out)
          have HB6 : Hid (BdW (wl [gV vs k, gV vs j0, gV vs j1] [6])) := Lib.hid (wl_bd (fun x hx => by rw [List.mem_singleton] at hx; rw [hx]; decide) (fun x hx => by
            simp only [List.mem_cons, List.not_mem_nil, or_false] at hx
            rcases hx with rfl | rfl | rfl <;> exact HVI.out _))
          have HAV0 := fun (G c bq oq cq : Nat) (W : World) (h : RowC 3 vg W W.heap.size (some ⟨bq, oq, none⟩) [gV vs k, gV vs j0, gV vs j1]) (h2 : Row I64 W W.heap.size (some ⟨G, 0, none⟩) [6]) => (show Calls Tryz.prog 62 #[.slice (some ⟨bq, oq, none⟩) [gV vs k, gV vs j0, gV vs j1].length cq, .slice (some ⟨G, 0, none⟩) 1 c] W (VecOut (avgL (wl [gV vs k, gV vs j0, gV vs j1] [6])).1 (avgL (wl [gV vs k, gV vs j0, gV vs j1] [6])).2.1 (avgL (wl [gV vs k, gV vs j0, gV vs j1] [6])).2.2 W) from average_any (some ⟨bq, oq, none⟩) (some ⟨G, 0, none⟩) cq c [gV vs k, gV vs j0, gV vs j1] [6] W h h2 (by simp) (by simp) HB6.out)
          obtain ⟨V, hV⟩ : ∃ V, V = avgL (wl [gV vs k, gV vs j0, gV vs j1] [6]) := ⟨_, rfl⟩
          rw [← hV] at HEV HAV0
          obtain ⟨l, hl⟩ : ∃ l, l = [gV vs k, gV vs j0, gV vs j1] := ⟨_, rfl⟩
          rw [← hl] at HVA HAV0
          have HLL : Hid (l.length = 3) := Lib.hid (by rw [hl]; rfl)
          have HAV := Lib.hid HAV0
          clear hr2 HAV0 HIP HE HB6 hV hl HM7 HO4 HT4 HRF4 r0 r1 r2 g0 g1 g2 c0' c1'
          go_upto_region 6 with fail
          go_region_held3 (fun W => W.cell? ⟨w.heap.size, 0, none⟩ = some (.slice A1 vs.length c1) ∧ W.cell? ⟨w.heap.size, 1, none⟩ = some (.slice A2 fs.length c2) ∧ W.cell? ⟨g7, 0, none⟩ = some (.int .i64 j0) ∧ W.cell? ⟨g7, 1, none⟩ = some (.int .i64 j1))
            (first | (with_reducible exact HC _ HT.tail) | (with_reducible exact HC _ HT.drew.tail) | (with_reducible exact HC _ (HT.tail.far3 (by omega) (by simp; omega) _ _ _)) | exact HC _ (HT.later (by go_grown)).tail)
            (first | (go_at_call 63; refine Calls.mono (HVA.out _ _ _ ?_ ?_) ?_; exact HI _ (HT.later (by go_grown)); exact row3_of (by simp [go_sem]) (by simp [go_sem]) (by simp [go_sem]); rintro e w6 hv6; obtain ⟨bq, oq, cq, rfl, _, hrq, hb6⟩ := hv6.some (by rw [HLL.out]; decide); have HT := Held.later (HT.later (by go_grown)) hb6) | (go_at_call 62; refine Calls.mono (HAV.out _ _ bq oq cq _ ?_ ?_) ?_; (first | with_reducible exact hrq | exact hrq.later (by go_grown)); (first | exact row1_of (by simp [go_sem]) | exact row1_of ((hb6.cell (p := ⟨_, 0, none⟩) (by first | (simp; done) | (simp; omega))).trans (by simp [go_sem]))); rintro e w7 ⟨rfl, hb7⟩; have HT := Held.later (HT.later (by go_grown)) hb7; have r0 := (HT.box 0).c 0; have g0 := (HT.box 0).f 0; have r1 := (HT.box 0).c 1; have g1 := (HT.box 0).f 1; have r2 := (HT.box 0).c 2; have g2 := (HT.box 0).f 2))
          all_goals go_wp2
          all_goals exact bodyPost_ret (v := vec V.1 V.2.1 V.2.2) (by simp [results, Tryz.results26, go_sem, r0, r1, r2]) rfl ⟨by rw [HEV.out], bset3 HT.below (by omega)⟩
        · rw [if_neg hr2] at HE
          have hr2' : ¬ ((R.length : Int) = 2) := by omega
          by_cases hv : R ≠ [] ∨ F = []
          · rw [if_pos hv] at HE
            obtain ⟨bv, ov, p, rfl, hbv, hp, v0, v1, v2⟩ := HVP.out
            rw [hp] at HE
            have d0 := (HT4.out.below.cell (p := ⟨bv, ov + k * 3, none⟩) hbv).trans v0
            have d1 := (HT4.out.below.cell (p := ⟨bv, ov + k * 3 + 1, none⟩) hbv).trans v1
            have d2 := (HT4.out.below.cell (p := ⟨bv, ov + k * 3 + 2, none⟩) hbv).trans v2
            clear v0 v1 v2 hp
            by_cases hr0 : R = []
            · have hF : F = [] := by rcases hv with h | h; exact absurd hr0 h; exact h
              subst hr0 hF
              clear hv
              go_wp2_with fail
              exact bodyPost_ret (v := vec p.1 p.2.1 p.2.2) (by simp [results, Tryz.results26, go_sem, r0, r1, r2]) rfl ⟨by rw [HE.out], bset3 HT4.out.below (by omega)⟩
            · have hrp : 0 < R.length := List.length_pos_iff.2 hr0
              have hrp' : (0 : Int) < (R.length : Int) := by omega
              clear hv hr0
              go_wp2_with fail
              exact bodyPost_ret (v := vec p.1 p.2.1 p.2.2) (by simp [results, Tryz.results26, go_sem, r0, r1, r2]) rfl ⟨by rw [HE.out], bset3 HT4.out.below (by omega)⟩
          · rw [if_neg hv] at HE
            have hr0 : R = [] := Decidable.not_not.1 fun h => hv (.inl h)
            have hf0 : F ≠ [] := fun h => hv (.inr h)
            subst hr0
            have hfp : 0 < F.length := List.length_pos_iff.2 hf0
            have hfp' : ¬ ((F.length : Int) = 0) := by omega
            have hfp2 : ¬ (F.length = 0) := by omega
            have HC := HIP.out A5 c5 w4 (HI _ HT4.out) rfl hf0 HRF4.out
            obtain ⟨V, hV⟩ : ∃ V, V = avgL (inL vs fs k) := ⟨_, rfl⟩
            rw [← hV] at HC HE
            clear hv hV HIP r0 r1 r2 g0 g1 g2
            go_wp2_with fail
            refine HC.mono ?_
            rintro e w9 ⟨rfl, hb9⟩
            have HT9 := Lib.hid (HT4.out.later hb9)
            clear hb9 HT4 HC c0' c1'
            have r0 := (HT9.out.box 0).c 0
            have g0 := (HT9.out.box 0).f 0
            have r1 := (HT9.out.box 0).c 1
            have g1 := (HT9.out.box 0).f 1
            have r2 := (HT9.out.box 0).c 2
            have g2 := (HT9.out.box 0).f 2
            have c0' := (HT9.out.box 1).c 0
            have c1' := (HT9.out.box 1).c 1
            go_wp2_with fail
            exact bodyPost_ret (v := vec V.1 V.2.1 V.2.2) (by simp [results, Tryz.results26, go_sem, r0, r1, r2]) rfl ⟨by rw [HE.out], bset3 HT9.out.below (by omega)⟩


end Go.Proofs.YtdefhepagpgnaaaGreat
