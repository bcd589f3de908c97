/- The contract of FacePatches in the program. -/
import Derived.Test.YtdefhepagpgnaaaProg
import Derived.Test.YtdefhepagpgnaaaInts
import Derived.Test.YtdefhepagpgnaaaVbox
import Derived.Test.YtdefhepagpgnaaaVec
import Derived.Test.YtdefhepagpgnaaaHeld
import Derived.Test.YtdefhepagpgnaaaMem
import Derived.Test.YtdefhepagpgnaaaRowC
import Derived.Test.YtdefhepagpgnaaaIntS
import Derived.Test.YtdefhepagpgnaaaVecS
import Derived.Test.YtdefhepagpgnaaaSS
import Derived.Test.YtdefhepagpgnaaaMkA
import Derived.Test.YtdefhepagpgnaaaMkB
import Derived.Test.YtdefhepagpgnaaaMkC
import Derived.Test.YtdefhepagpgnaaaMkD
import Derived.Test.YtdefhepagpgnaaaMF
import Derived.Test.YtdefhepagpgnaaaMG
import Derived.Test.YtdefhepagpgnaaaMH
import Derived.Test.YtdefhepagpgnaaaMM
import Derived.Test.YtdefhepagpgnaaaMN
import Derived.Test.YtdefhepagpgnaaaMV
import Derived.Test.YtdefhepagpgnaaaMW
import Derived.Test.YtdefhepagpgnaaaMVF
import Derived.Test.YtdefhepagpgnaaaMNb
import Derived.Test.YtdefhepagpgnaaaMFw
import Derived.WalkKit
import Derived.WalkSpells
import Derived.WalkLawsBesides
import Derived.Lib.Hide
import Derived.Deep.RegionHeld3
import Derived.Deep.QuietTactic
import Derived.BigQuiet
import Derived.Handy
import Derived.Deep.DeepCutAuto
import Derived.OwnWalk
import Derived.OpenShut
import Derived.BigRegion
import Derived.Deep.AppendLies
import Derived.Deep.DrawnRows
namespace Go.Proofs.Ytdefhepagpgnaaa
open Go.RowKit

set_option maxRecDepth 100000 in
set_option maxHeartbeats 400000000 in
theorem facePatches_any (A1 A2 : Option Addr) (c1 c2 : Nat) (vs : List V3) (fs : List (List Int)) (w : World) (hR : MeshIn w A1 A2 vs fs) (hf : MeshFits vs fs) :
    Calls Try.prog 16 #[mv A1 A2 vs.length c1 fs.length c2] w (PatsOut w (patL vs fs)) := by
  have HIN := Lib.hid hR
  have HF := Lib.hid hf
  have HT0 : Held w (w.alloc (.cells #[.slice A1 vs.length c1, .slice A2 fs.length c2] 26)) [(w.heap.size, [.slice A1 vs.length c1, .slice A2 fs.length c2])] := by
    have h := (Held.nil w).new #[.slice A1 vs.length c1, .slice A2 fs.length c2] 26
    simpa only [World.size_alloc] using h
  have HI : ∀ {bs : List (Nat × List Value)} (W : World), Held w W bs → MeshIn W A1 A2 vs fs := fun W h => ⟨(HIN.out.1.below h.below).more h.size, (HIN.out.2.below h.below).more h.size⟩
  have HT := Lib.hid HT0
  clear hR hf HT0
  have c0' := (HT.out.box 0).c 0
  have c1' := (HT.out.box 0).c 1
  obtain ⟨ok, hok⟩ : ∃ ok, ok = okMesh vs fs := ⟨_, rfl⟩
  have HOK := Lib.hid hok
  have HC := isValidMesh_any A1 A2 c1 c2 vs fs _ (HI _ HT.out) HF.out
  rw [← hok] at HC
  clear hok
  go_enter Try.func16, Try.ntmps16
  go_wp2_with fail
  refine HC.mono ?_
  rintro e w1 ⟨rfl, hb1⟩
  have HT1 := Lib.hid (HT.out.later hb1)
  clear hb1 HT c0' c1' HC
  cases ok
  · have HE : Hid (patL vs fs = []) := Lib.hid (by unfold patL; rw [← HOK.out]; rfl)
    go_wp2_with fail
    go_ret
    rw [HE.out]
    exact ⟨none, 0, rfl, World.ownsRow_nil _ _ _ _, HT1.out.below⟩
  · have hok := ok_all HOK.out.symm
    have hlen := hok.2.1
    have HOF := Lib.hid hok.2.2
    have hvl := hok.1
    clear hok
    have HO1 := Lib.hid (World.ownsRow_nil w1 (w.heap.size + 1) 76 12)
    have c1' := (HT1.out.box 0).c 1
    go_wp2
    go_loopw [3, 16] (fun u i wr => ∃ k : Nat, k ≤ fs.length ∧ i = .int .i64 k ∧ wr.ownsRow (w.heap.size + 1) 76 12 u k (((fs.take k).map (patOf vs)).flatMap pgc) ∧ Held w wr [(w.heap.size, [.slice A1 vs.length c1, .slice A2 fs.length c2])]) (fun _ i _ => fs.length - (intOf i).toNat)
    case atStart => exact ⟨0, Nat.zero_le _, rfl, HO1.out, HT1.out⟩
    case round =>
      clear c1' HT1 HO1
      obtain ⟨k, hk, rfl, hown, ht⟩ := hrel
      have HO := Lib.hid hown
      have HT := Lib.hid ht
      clear hown ht
      by_cases hlt : k < fs.length
      · obtain ⟨b, o, a, cc, rfl, hbl, hc, hle, hcm, hrow⟩ := HIN.out.2.at hlt
        have hc' := (HT.out.below.cell (p := ⟨b, o + k, none⟩) hbl).trans hc
        have HTK := Lib.hid (List.take_succ_eq_append_getElem hlt)
        have HFO := Lib.hid (HOF.out _ (List.getElem_mem hlt))
        obtain ⟨f, hf⟩ : ∃ f, f = fs[k] := ⟨_, rfl⟩
        rw [← hf] at hc' hrow
        simp only [← hf] at HTK HFO
        obtain ⟨i0, i1, i2, i3, rfl, l0, l1, l2, l3⟩ := face_at HFO.out
        obtain ⟨bf, off, rfl, hbf, hin⟩ := hrow (by simp)
        have f0 := hin 0 (by simp)
        have f1 := hin 1 (by simp)
        have f2 := hin 2 (by simp)
        have f3 := hin 3 (by simp)
        simp only [List.getElem_cons_zero, List.getElem_cons_succ, Nat.add_zero, List.length_cons, List.length_nil, Nat.zero_add, Nat.reduceAdd] at f0 f1 f2 f3 hc'
        obtain ⟨bv, ov, x0, y0, z0, rfl, hbv, e0, v00, v01, v02⟩ := HIN.out.1.vec l0
        obtain ⟨_, _, x1, y1, z1, ea, _, e1, v10, v11, v12⟩ := HIN.out.1.vec l1
        simp only [Option.some.injEq, Addr.mk.injEq, and_true] at ea
        obtain ⟨rfl, rfl⟩ := ea
        obtain ⟨_, _, x2, y2, z2, ea, _, e2, v20, v21, v22⟩ := HIN.out.1.vec l2
        simp only [Option.some.injEq, Addr.mk.injEq, and_true] at ea
        obtain ⟨rfl, rfl⟩ := ea
        obtain ⟨_, _, x3, y3, z3, ea, _, e3, v30, v31, v32⟩ := HIN.out.1.vec l3
        simp only [Option.some.injEq, Addr.mk.injEq, and_true] at ea
        obtain ⟨rfl, rfl⟩ := ea
        have HPA : Hid (patOf vs [(i0 : Int), (i1 : Int), (i2 : Int), (i3 : Int)] = ((x0, y0, z0), (x1, y1, z1), (x3, y3, z3), (x2, y2, z2))) := Lib.hid (by unfold patOf; simp only [List.getD_cons_zero, List.getD_cons_succ, Int.toNat_natCast, e0, e1, e2, e3])
        have c0' := (HT.out.box 0).c 0
        have p0 : (0 : Int) ≤ (i0 : Int) := by omega
        have p1 : (0 : Int) ≤ (i1 : Int) := by omega
        have p2 : (0 : Int) ≤ (i2 : Int) := by omega
        have p3 : (0 : Int) ≤ (i3 : Int) := by omega
        have q0 : (i0 : Int) < (vs.length : Int) := by omega
        have q1 : (i1 : Int) < (vs.length : Int) := by omega
        have q2 : (i2 : Int) < (vs.length : Int) := by omega
        have q3 : (i3 : Int) < (vs.length : Int) := by omega
        have HCA := Lib.hid (show _ ∧ _ ∧ _ ∧ _ ∧ _ ∧ _ ∧ _ ∧ _ ∧ _ ∧ _ ∧ _ ∧ _ ∧ _ ∧ _ ∧ _ ∧ _ from ⟨f0, f1, f2, f3, v00, v01, v02, v10, v11, v12, v20, v21, v22, v30, v31, v32⟩)
        have HC : ∀ W, Below wr.heap.size wr W → (W.cell? ⟨w.heap.size, 0, none⟩ = some (.slice (some ⟨bv, ov, none⟩) vs.length c1) ∧ W.cell? ⟨bf, off, none⟩ = some (.int .i64 i0) ∧ W.cell? ⟨bf, off + 1, none⟩ = some (.int .i64 i1) ∧ W.cell? ⟨bf, off + 2, none⟩ = some (.int .i64 i2) ∧ W.cell? ⟨bf, off + 3, none⟩ = some (.int .i64 i3) ∧ W.cell? ⟨bv, ov + i0 * 3, none⟩ = some (.int .i64 x0) ∧ W.cell? ⟨bv, ov + i0 * 3 + 1, none⟩ = some (.int .i64 y0) ∧ W.cell? ⟨bv, ov + i0 * 3 + 2, none⟩ = some (.int .i64 z0) ∧ W.cell? ⟨bv, ov + i1 * 3, none⟩ = some (.int .i64 x1) ∧ W.cell? ⟨bv, ov + i1 * 3 + 1, none⟩ = some (.int .i64 y1) ∧ W.cell? ⟨bv, ov + i1 * 3 + 2, none⟩ = some (.int .i64 z1) ∧ W.cell? ⟨bv, ov + i2 * 3, none⟩ = some (.int .i64 x2) ∧ W.cell? ⟨bv, ov + i2 * 3 + 1, none⟩ = some (.int .i64 y2) ∧ W.cell? ⟨bv, ov + i2 * 3 + 2, none⟩ = some (.int .i64 z2) ∧ W.cell? ⟨bv, ov + i3 * 3, none⟩ = some (.int .i64 x3) ∧ W.cell? ⟨bv, ov + i3 * 3 + 1, none⟩ = some (.int .i64 y3) ∧ W.cell? ⟨bv, ov + i3 * 3 + 2, none⟩ = some (.int .i64 z3)) := fun W h => by
          have hB := HT.out.below.trans (h.mono HT.out.size)
          exact ⟨(h.cell (p := ⟨w.heap.size, 0, none⟩) (HT.out.box 0).lt).trans ((HT.out.box 0).c 0), (hB.cell (p := ⟨bf, off, none⟩) hbf).trans HCA.out.1, (hB.cell (p := ⟨bf, off + 1, none⟩) hbf).trans HCA.out.2.1, (hB.cell (p := ⟨bf, off + 2, none⟩) hbf).trans HCA.out.2.2.1, (hB.cell (p := ⟨bf, off + 3, none⟩) hbf).trans HCA.out.2.2.2.1, (hB.cell (p := ⟨bv, ov + i0 * 3, none⟩) hbv).trans HCA.out.2.2.2.2.1, (hB.cell (p := ⟨bv, ov + i0 * 3 + 1, none⟩) hbv).trans HCA.out.2.2.2.2.2.1, (hB.cell (p := ⟨bv, ov + i0 * 3 + 2, none⟩) hbv).trans HCA.out.2.2.2.2.2.2.1, (hB.cell (p := ⟨bv, ov + i1 * 3, none⟩) hbv).trans HCA.out.2.2.2.2.2.2.2.1, (hB.cell (p := ⟨bv, ov + i1 * 3 + 1, none⟩) hbv).trans HCA.out.2.2.2.2.2.2.2.2.1, (hB.cell (p := ⟨bv, ov + i1 * 3 + 2, none⟩) hbv).trans HCA.out.2.2.2.2.2.2.2.2.2.1, (hB.cell (p := ⟨bv, ov + i2 * 3, none⟩) hbv).trans HCA.out.2.2.2.2.2.2.2.2.2.2.1, (hB.cell (p := ⟨bv, ov + i2 * 3 + 1, none⟩) hbv).trans HCA.out.2.2.2.2.2.2.2.2.2.2.2.1, (hB.cell (p := ⟨bv, ov + i2 * 3 + 2, none⟩) hbv).trans HCA.out.2.2.2.2.2.2.2.2.2.2.2.2.1, (hB.cell (p := ⟨bv, ov + i3 * 3, none⟩) hbv).trans HCA.out.2.2.2.2.2.2.2.2.2.2.2.2.2.1, (hB.cell (p := ⟨bv, ov + i3 * 3 + 1, none⟩) hbv).trans HCA.out.2.2.2.2.2.2.2.2.2.2.2.2.2.2.1, (hB.cell (p := ⟨bv, ov + i3 * 3 + 2, none⟩) hbv).trans HCA.out.2.2.2.2.2.2.2.2.2.2.2.2.2.2.2⟩
        clear f0 f1 f2 f3 v00 v01 v02 v10 v11 v12 v20 v21 v22 v30 v31 v32 hin hf hc hle hcm hrow e0 e1 e2 e3
        go_upto_region 7 with fail
        go_cut [6, 7, 8, 9] (fun s6 s7 s8 s9 wx => ∃ g0 g1 g2 g3 : Nat, s6 = .pointer (some ⟨g0, 0, none⟩) ∧ s7 = .pointer (some ⟨g1, 0, none⟩) ∧ s8 = .pointer (some ⟨g2, 0, none⟩) ∧ s9 = .pointer (some ⟨g3, 0, none⟩) ∧ (wx.cell? ⟨g0, 0, none⟩ = some (.int .i64 x0) ∧ wx.cell? ⟨g0, 1, none⟩ = some (.int .i64 y0) ∧ wx.cell? ⟨g0, 2, none⟩ = some (.int .i64 z0) ∧ wx.cell? ⟨g1, 0, none⟩ = some (.int .i64 x1) ∧ wx.cell? ⟨g1, 1, none⟩ = some (.int .i64 y1) ∧ wx.cell? ⟨g1, 2, none⟩ = some (.int .i64 z1) ∧ wx.cell? ⟨g2, 0, none⟩ = some (.int .i64 x2) ∧ wx.cell? ⟨g2, 1, none⟩ = some (.int .i64 y2) ∧ wx.cell? ⟨g2, 2, none⟩ = some (.int .i64 z2) ∧ wx.cell? ⟨g3, 0, none⟩ = some (.int .i64 x3) ∧ wx.cell? ⟨g3, 1, none⟩ = some (.int .i64 y3) ∧ wx.cell? ⟨g3, 2, none⟩ = some (.int .i64 z3)) ∧ Below wr.heap.size wr wx)
        case first =>
          clear HT HO HI
          go_region_held3 (fun W => W.cell? ⟨w.heap.size, 0, none⟩ = some (.slice (some ⟨bv, ov, none⟩) vs.length c1) ∧ W.cell? ⟨bf, off, none⟩ = some (.int .i64 i0) ∧ W.cell? ⟨bf, off + 1, none⟩ = some (.int .i64 i1) ∧ W.cell? ⟨bf, off + 2, none⟩ = some (.int .i64 i2) ∧ W.cell? ⟨bf, off + 3, none⟩ = some (.int .i64 i3) ∧ W.cell? ⟨bv, ov + i0 * 3, none⟩ = some (.int .i64 x0) ∧ W.cell? ⟨bv, ov + i0 * 3 + 1, none⟩ = some (.int .i64 y0) ∧ W.cell? ⟨bv, ov + i0 * 3 + 2, none⟩ = some (.int .i64 z0) ∧ W.cell? ⟨bv, ov + i1 * 3, none⟩ = some (.int .i64 x1) ∧ W.cell? ⟨bv, ov + i1 * 3 + 1, none⟩ = some (.int .i64 y1) ∧ W.cell? ⟨bv, ov + i1 * 3 + 2, none⟩ = some (.int .i64 z1) ∧ W.cell? ⟨bv, ov + i2 * 3, none⟩ = some (.int .i64 x2) ∧ W.cell? ⟨bv, ov + i2 * 3 + 1, none⟩ = some (.int .i64 y2) ∧ W.cell? ⟨bv, ov + i2 * 3 + 2, none⟩ = some (.int .i64 z2) ∧ W.cell? ⟨bv, ov + i3 * 3, none⟩ = some (.int .i64 x3) ∧ W.cell? ⟨bv, ov + i3 * 3 + 1, none⟩ = some (.int .i64 y3) ∧ W.cell? ⟨bv, ov + i3 * 3 + 2, none⟩ = some (.int .i64 z3)) (exact HC _ (by go_grown)) (fail)
          all_goals (go_wp2_with fail; go_meet)
          all_goals exact ⟨_, _, _, _, rfl, rfl, rfl, rfl, by simp [go_sem], by go_grown⟩
        case rest =>
          obtain ⟨g0, g1, g2, g3, rfl, rfl, rfl, rfl, ⟨k00, k01, k02, k10, k11, k12, k20, k21, k22, k30, k31, k32⟩, hb7⟩ := hcut
          have HT7 := Lib.hid (HT.out.later hb7)
          have HO7 := Lib.hid (own_keep' HO.out hb7)
          clear hb7 HC HT HO
          go_wp2_with (at_builtin; (refine wpList_appN wc rfl _ _ 33 rfl (w.heap.size + 1) 76 _ 12 96 Try.underlying33 infoP rfl (by omega) _ _ _ (by rfl) HO7.out #[.int .i64 x0, .int .i64 y0, .int .i64 z0, .int .i64 x1, .int .i64 y1, .int .i64 z1, .int .i64 x3, .int .i64 y3, .int .i64 z3, .int .i64 x2, .int .i64 y2, .int .i64 z2] rfl (by rfl) (by simp [Value.oneCell']) (by unfold maxLen; omega) (by omega) (by exact (HT7.out.box 0).lt) ?_))
          intro v5 w5 ho5 hg5
          have hop : ∀ q, u3.ownBlock = some q → w.heap.size + 1 ≤ q := own_block HO7.out
          have HT5 := Lib.hid (heldGrown HT7.out hg5 (fun q hq => by have := hop q hq; omega) (fun p hp c => by
            simp only [List.mem_singleton] at hp
            subst hp
            have := hop _ c.symm
            omega))
          have HO5 : Hid (w5.ownsRow (w.heap.size + 1) 76 12 v5 (k + 1) (((fs.take (k + 1)).map (patOf vs)).flatMap pgc)) := Lib.hid (by
            rw [HTK.out, List.map_append, List.flatMap_append]
            simp only [List.map_cons, List.map_nil, HPA.out, List.flatMap_cons, List.flatMap_nil, List.append_nil]
            rw [List.map_take]
            exact ho5)
          clear ho5 hg5 hop HO7 HT7 k00 k01 k02 k10 k11 k12 k20 k21 k22 k30 k31 k32
          go_wp2_with fail
          go_roundw
          case rel => exact ⟨k + 1, by omega, by go_num, HO5.out, HT5.out⟩
          case measure => simp [intOf]; omega
      · have e : k = fs.length := by omega
        obtain ⟨A5, c5, e5⟩ := own_shape HO.out
        have HFIN : Hid (PatsOut w (patL vs fs) (.returned u3) wr) := Lib.hid (by
          have hv : patL vs fs = fs.map (patOf vs) := by unfold patL; rw [← HOK.out]; rfl
          have ho := HO.out
          rw [e5, e, List.take_length] at ho
          exact ⟨A5, c5, by rw [e5, e, hv, List.length_map], by rw [hv, List.length_map]; exact own_base ho (by omega), HT.out.below⟩)
        clear e5 e HO HT
        go_wp2
        go_ret
        exact HFIN.out


end Go.Proofs.Ytdefhepagpgnaaa
