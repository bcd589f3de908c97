/- Contracts of VertexPoint, in the model. -/
import Derived.Test.YtdefhepagpgnaaaGreatProg
import Derived.Test.YtdefhepagpgnaaaGreatInts
import Derived.Test.YtdefhepagpgnaaaGreatVbox
import Derived.Test.YtdefhepagpgnaaaGreatVec
import Derived.Test.YtdefhepagpgnaaaGreatHeld
import Derived.Test.YtdefhepagpgnaaaGreatMem
import Derived.Test.YtdefhepagpgnaaaGreatRowC
import Derived.Test.YtdefhepagpgnaaaGreatIntS
import Derived.Test.YtdefhepagpgnaaaGreatVecS
import Derived.Test.YtdefhepagpgnaaaGreatSS
import Derived.Test.YtdefhepagpgnaaaGreatMkA
import Derived.Test.YtdefhepagpgnaaaGreatMkB
import Derived.Test.YtdefhepagpgnaaaGreatMkC
import Derived.Test.YtdefhepagpgnaaaGreatMkD
import Derived.Test.YtdefhepagpgnaaaGreatMF
import Derived.Test.YtdefhepagpgnaaaGreatMG
import Derived.Test.YtdefhepagpgnaaaGreatMH
import Derived.Test.YtdefhepagpgnaaaGreatMW
import Derived.Test.YtdefhepagpgnaaaGreatMVF
import Derived.Test.YtdefhepagpgnaaaGreatMNb
import Derived.Test.YtdefhepagpgnaaaGreatMB
import Derived.Test.YtdefhepagpgnaaaGreatMBd
import Derived.Test.YtdefhepagpgnaaaGreatMLw
import Derived.Test.YtdefhepagpgnaaaGreatMEF
import Derived.Test.YtdefhepagpgnaaaGreatKp
import Derived.Test.YtdefhepagpgnaaaGreatKs
import Derived.Test.YtdefhepagpgnaaaGreatKa
import Derived.Test.YtdefhepagpgnaaaGreatKt
import Derived.WalkKit
import Derived.WalkSpells
import Derived.WalkLawsBesides
import Derived.Lib.Hide
import Derived.Deep.RegionHeld3
import Derived.Deep.QuietTactic
import Derived.BigQuiet
import Derived.Handy
import Derived.Deep.DeepCutAuto
import Derived.OwnWalk
import Derived.Deep.AppendLies
namespace Go.Proofs.YtdefhepagpgnaaaGreat
open Go.RowKit

theorem lit_one (w : World) (a : V3) : (w.alloc (.cells #[.int .i64 a.1, .int .i64 a.2.1, .int .i64 a.2.2] 43)).ownsRow w.heap.size 43 3 (.slice (some ⟨w.heap.size, 0, none⟩) 1 1) 1 ([a].flatMap vg) := World.ownsRow_lit w #[.int .i64 a.1, .int .i64 a.2.1, .int .i64 a.2.2] 1 (Nat.le_refl _) (by unfold maxLen; omega) rfl
set_option maxRecDepth 100000 in
set_option maxHeartbeats 16000000 in
theorem sRim_any (A1 A2 : Option Addr) (c1 c2 : Nat) (vs : List V3) (fs : List (List Int)) (v : Int) (w : World) (hR : MeshIn w A1 A2 vs fs) (hf : MeshFits vs fs) :
    Calls Tryz.prog 45 #[mv A1 A2 vs.length c1 fs.length c2, .int .i64 v] w (IntOut w (rimL vs fs v)) := by
  have HIN := Lib.hid hR
  have HF := Lib.hid hf
  have HT0 : Held w (w.alloc (.cells #[.slice A1 vs.length c1, .slice A2 fs.length c2] 29)) [(w.heap.size, [.slice A1 vs.length c1, .slice A2 fs.length c2])] := by
    have h := (Held.nil w).new #[.slice A1 vs.length c1, .slice A2 fs.length c2] 29
    simpa only [World.size_alloc] using h
  have HI : ∀ {bs : List (Nat × List Value)} (W : World), Held w W bs → MeshIn W A1 A2 vs fs := fun W h => ⟨(HIN.out.1.below h.below).more h.size, (HIN.out.2.below h.below).more h.size⟩
  have HT := Lib.hid HT0
  clear hR hf HT0
  have HT0 := Lib.hid (HT.out.alloc (.cells #[] 3))
  have HC := sBoundary_any A1 A2 c1 c2 vs fs _ (HI _ HT0.out) HF.out
  have HST := Lib.hid (fun e (h : e ∈ bdL vs fs) => edL_strict e (bd_sub e h))
  have HO0 := Lib.hid (made_none (w.alloc (.cells #[.slice A1 vs.length c1, .slice A2 fs.length c2] 29)) 3)
  have c0' := (HT0.out.box 0).c 0
  have c1' := (HT0.out.box 0).c 1
  have HZL := Lib.hid (bdL_len vs fs)
  unfold rimL
  obtain ⟨Z, hZ⟩ : ∃ Z, Z = bdL vs fs := ⟨_, rfl⟩
  rw [← hZ] at HC HZL HST ⊢
  clear hZ HT
  go_enter Tryz.func45, Tryz.ntmps45
  go_wp2_with fail
  refine HC.mono ?_
  rintro e w1 ⟨A5, c5, rfl, hr, hb1⟩
  have HR := Lib.hid hr
  have HB1 : Hid (Below w.heap.size w w1) := Lib.hid (HT0.out.below.trans (hb1.mono HT0.out.below.size))
  have HEMP : Hid (∀ o s, w1.cell? ⟨w.heap.size + 1, o, s⟩ = none) := Lib.hid (fun o s => by
    have hblk := heap_alloc_new (w.alloc (.cells #[.slice A1 vs.length c1, .slice A2 fs.length c2] 29)) (.cells #[] 3)
    rw [World.size_alloc] at hblk
    exact cell_empty ((hb1.block _ (by simp)).trans hblk) o s)
  have ho1 := own_keep' HO0.out hb1
  simp only [World.size_alloc] at ho1
  have HO1 := Lib.hid ho1
  have hz1 : w.heap.size + 2 ≤ w1.heap.size := by have := hb1.size; simpa using this
  clear hb1 hr HC HT0 HO0 c0' c1' ho1 HI HIN
  go_wp2
  go_loopw [5, 12] (fun u i wr => ∃ k : Nat, k ≤ Z.length ∧ i = .int .i64 k ∧ wr.ownsRow (w.heap.size + 1) 3 1 u (nbL v (Z.take k)).length ((nbL v (Z.take k)).map I64) ∧ Below w.heap.size w wr ∧ KeptC w1.heap.size w1 wr ∧ w1.heap.size ≤ wr.heap.size ∧ (∀ q, u.ownBlock = some q → w1.heap.size ≤ q ∨ q = w.heap.size + 1)) (fun _ i _ => Z.length - (intOf i).toNat)
  case atStart => exact ⟨0, Nat.zero_le _, rfl, HO1.out, HB1.out, fun _ _ _ h => h, Nat.le_refl _, fun q hq => .inr (by simpa [Value.ownBlock] using hq.symm)⟩
  case round =>
    clear HO1 HB1
    obtain ⟨k, hk, rfl, hown, hb, hkc, hsz, hq⟩ := hrel
    have HO := Lib.hid hown
    have HB := Lib.hid hb
    have HK := Lib.hid hkc
    have HSZ := Lib.hid hsz
    have HQ := Lib.hid hq
    clear hown hb hkc hsz hq
    by_cases hlt : k < Z.length
    · have hz := HZL.out
      obtain ⟨b, o, g1, o1, c2', rfl, hbl, hc, hg1, hd0, hd1⟩ := HR.out.pair hlt
      have hc' := HK.out _ _ (show (⟨b, o + k, none⟩ : Addr).block < _ from hbl) hc
      have d0 := HK.out _ _ (show (⟨g1, o1, none⟩ : Addr).block < _ from hg1) hd0
      have d1 := HK.out _ _ (show (⟨g1, o1 + 1, none⟩ : Addr).block < _ from hg1) hd1
      have HSU := Lib.hid (nbL_succ v Z k hlt)
      have HLN : Hid ((nbL v (Z.take k)).length ≤ 256) := Lib.hid (by
        have h1 := nbL_len v (Z.take k)
        have := HZL.out
        rw [List.length_take] at h1
        omega)
      have hst := HST.out _ (List.getElem_mem hlt)
      obtain ⟨ed, hed⟩ : ∃ e, e = Z[k] := ⟨_, rfl⟩
      rw [← hed] at d0 d1 hst
      simp only [← hed] at HSU
      obtain ⟨p, q⟩ := ed
      dsimp only at d0 d1 hst
      clear hd0 hd1
      by_cases h1 : v = p
      · subst h1
        have h2 : ¬ q = v := by omega
        have HS : Hid (nbL v (Z.take (k + 1)) = nbL v (Z.take k) ++ [q]) := Lib.hid (by rw [HSU.out]; simp [nbOf])
        go_wp2_with (at_builtin; refine wpList_app1L wr rfl _ _ 45 rfl (w.heap.size + 1) 3 (.int .i64 0) 8 Tryz.underlying45 infoInt rfl _ _ _ (by rfl) HO.out (.int .i64 q) (by rfl) (by rfl) (by have := HLN.out; unfold maxLen; omega) (by have := HLN.out; omega) (by have := HSZ.out; omega) ?_)
        intro g4 cap4 w4 ho4 hg4 hat4
        have hop : ∀ q, u5.ownBlock = some q → w.heap.size + 1 ≤ q := own_block HO.out
        have HB4 := Lib.hid (below_own HB.out hg4 HB.out.size (fun q hq => by have := hop q hq; omega))
        have HK4 := Lib.hid (KeptC.grown HK.out hg4 HSZ.out (fun q hq => by
          rcases HQ.out q hq with h | h
          · exact .inl h
          · exact .inr (fun o s => by rw [h]; exact HEMP.out o s)))
        have HQ4 : Hid (∀ q, (Value.slice (some ⟨g4, 0, none⟩) ((nbL v (Z.take k)).length + 1) cap4).ownBlock = some q → w1.heap.size ≤ q ∨ q = w.heap.size + 1) := Lib.hid (fun q hq => by
          have e : g4 = q := by simpa [Value.ownBlock] using hq
          rcases hat4 with h | h
          · rw [← e]; exact HQ.out g4 h
          · exact .inl (by have := HSZ.out; omega))
        have HS4 : Hid (w1.heap.size ≤ w4.heap.size) := Lib.hid (Nat.le_trans HSZ.out hg4.size)
        have HO4 : Hid (w4.ownsRow (w.heap.size + 1) 3 1 (.slice (some ⟨g4, 0, none⟩) ((nbL v (Z.take k)).length + 1) cap4) (nbL v (Z.take (k + 1))).length ((nbL v (Z.take (k + 1))).map I64)) := Lib.hid (by rw [HS.out]; simpa using ho4)
        have hr4 := (HR.out.keepC HK4.out).pair hlt
        obtain ⟨b', o', g1', o1', c2'', e4, _, hc4, _, d0', d1'⟩ := hr4
        simp only [Option.some.injEq, Addr.mk.injEq, and_true] at e4
        obtain ⟨rfl, rfl⟩ := e4
        have hcc := hc4.symm.trans (HK4.out _ _ hbl hc)
        simp only [Option.some.injEq, Value.slice.injEq, Addr.mk.injEq, and_true, true_and] at hcc
        obtain ⟨⟨rfl, rfl⟩, _⟩ := hcc
        rw [← hed] at d0' d1'
        clear ho4 hg4 hat4 HO HB hc4
        go_wp2_with fail
        go_roundw
        case rel => exact ⟨k + 1, by omega, by go_num, HO4.out, HB4.out, HK4.out, HS4.out, HQ4.out⟩
        case measure => simp [intOf]; omega
      · have h1' : ¬ p = v := fun h => h1 h.symm
        by_cases h2 : v = q
        · subst h2
          have HS : Hid (nbL v (Z.take (k + 1)) = nbL v (Z.take k) ++ [p]) := Lib.hid (by rw [HSU.out]; simp [nbOf, h1'])
          go_wp2_with (at_builtin; refine wpList_app1L wr rfl _ _ 45 rfl (w.heap.size + 1) 3 (.int .i64 0) 8 Tryz.underlying45 infoInt rfl _ _ _ (by rfl) HO.out (.int .i64 p) (by rfl) (by rfl) (by have := HLN.out; unfold maxLen; omega) (by have := HLN.out; omega) (by have := HSZ.out; omega) ?_)
          intro g4 cap4 w4 ho4 hg4 hat4
          have hop : ∀ q, u5.ownBlock = some q → w.heap.size + 1 ≤ q := own_block HO.out
          have HB4 := Lib.hid (below_own HB.out hg4 HB.out.size (fun q hq => by have := hop q hq; omega))
          have HK4 := Lib.hid (KeptC.grown HK.out hg4 HSZ.out (fun q hq => by
            rcases HQ.out q hq with h | h
            · exact .inl h
            · exact .inr (fun o s => by rw [h]; exact HEMP.out o s)))
          have HQ4 : Hid (∀ q, (Value.slice (some ⟨g4, 0, none⟩) ((nbL v (Z.take k)).length + 1) cap4).ownBlock = some q → w1.heap.size ≤ q ∨ q = w.heap.size + 1) := Lib.hid (fun q hq => by
            have e : g4 = q := by simpa [Value.ownBlock] using hq
            rcases hat4 with h | h
            · rw [← e]; exact HQ.out g4 h
            · exact .inl (by have := HSZ.out; omega))
          have HS4 : Hid (w1.heap.size ≤ w4.heap.size) := Lib.hid (Nat.le_trans HSZ.out hg4.size)
          have HO4 : Hid (w4.ownsRow (w.heap.size + 1) 3 1 (.slice (some ⟨g4, 0, none⟩) ((nbL v (Z.take k)).length + 1) cap4) (nbL v (Z.take (k + 1))).length ((nbL v (Z.take (k + 1))).map I64)) := Lib.hid (by rw [HS.out]; simpa using ho4)
          have hr4 := (HR.out.keepC HK4.out).pair hlt
          obtain ⟨b', o', g1', o1', c2'', e4, _, hc4, _, d0', d1'⟩ := hr4
          simp only [Option.some.injEq, Addr.mk.injEq, and_true] at e4
          obtain ⟨rfl, rfl⟩ := e4
          have hcc := hc4.symm.trans (HK4.out _ _ hbl hc)
          simp only [Option.some.injEq, Value.slice.injEq, Addr.mk.injEq, and_true, true_and] at hcc
          obtain ⟨⟨rfl, rfl⟩, _⟩ := hcc
          rw [← hed] at d0' d1'
          clear ho4 hg4 hat4 HO HB hc4
          go_wp2_with fail
          go_roundw
          case rel => exact ⟨k + 1, by omega, by go_num, HO4.out, HB4.out, HK4.out, HS4.out, HQ4.out⟩
          case measure => simp [intOf]; omega
        · have h2' : ¬ q = v := fun h => h2 h.symm
          have HS : Hid (nbL v (Z.take (k + 1)) = nbL v (Z.take k)) := Lib.hid (by rw [HSU.out]; simp [nbOf, h1', h2'])
          clear hed
          go_wp2
          go_roundw
          case rel => exact ⟨k + 1, by omega, by go_num, by rw [HS.out]; exact HO.out, HB.out, HK.out, HSZ.out, HQ.out⟩
          case measure => simp [intOf]; omega
    · have e : k = Z.length := by omega
      obtain ⟨A6, c6, e6⟩ := own_shape HO.out
      have HFIN : Hid (IntOut w (nbL v Z) (.returned u5) wr) := Lib.hid (by
        have ho := HO.out
        rw [e6, e, List.take_length] at ho
        exact ⟨A6, c6, by rw [e6, e, List.take_length], own_base ho (by omega), HB.out⟩)
      clear e6 e HO HB
      go_wp2
      go_ret
      exact HFIN.out

theorem lit_three (w : World) (a b c : V3) : (w.alloc (.cells #[.int .i64 a.1, .int .i64 a.2.1, .int .i64 a.2.2, .int .i64 b.1, .int .i64 b.2.1, .int .i64 b.2.2, .int .i64 c.1, .int .i64 c.2.1, .int .i64 c.2.2] 43)).ownsRow w.heap.size 43 3 (.slice (some ⟨w.heap.size, 0, none⟩) 3 3) 3 ([a, b, c].flatMap vg) := World.ownsRow_lit w #[.int .i64 a.1, .int .i64 a.2.1, .int .i64 a.2.2, .int .i64 b.1, .int .i64 b.2.1, .int .i64 b.2.2, .int .i64 c.1, .int .i64 c.2.1, .int .i64 c.2.2] 3 (Nat.le_refl _) (by unfold maxLen; omega) rfl
theorem avg_six (p a b : V3) : avgL ((6, p) :: ones [a, b]) = divV 8 (sumV [mulV 6 p, a, b]) := by unfold avgL; rw [wtot_cons, wtot_ones, wsum_cons, wsum_ones]; rfl
theorem flat_two {α β : Type} (f : α → β × β) : ∀ l : List α, (l.flatMap fun b => [(f b).1, (f b).2]).length = 2 * l.length
  | [] => rfl
  | a :: l => by rw [List.flatMap_cons, List.length_append, flat_two f l]; simp; omega
theorem two_off {α : Type} : ∀ {l : List α}, l.length = 2 → ∃ a b, l = [a, b]
  | [a, b], _ => ⟨a, b, rfl⟩
set_option maxRecDepth 100000 in
set_option maxHeartbeats 64000000 in
theorem sVertexPoint_any (A1 A2 : Option Addr) (c1 c2 : Nat) (vs : List V3) (fs : List (List Int)) (v : Int) (w : World) (hR : MeshIn w A1 A2 vs fs) (hf : MeshFits vs fs) :
    Calls Tryz.prog 18 #[mv A1 A2 vs.length c1 fs.length c2, .int .i64 v] w (VecOut (vpL vs fs v).1 (vpL vs fs v).2.1 (vpL vs fs v).2.2 w) := by
  have HIN := Lib.hid hR
  have HF := Lib.hid hf
  have HT0 : Held w ((w.alloc (.cells #[.slice A1 vs.length c1, .slice A2 fs.length c2] 29)).alloc (.cells #[.int .i64 0, .int .i64 0, .int .i64 0] 43)) [(w.heap.size + 1, [.int .i64 0, .int .i64 0, .int .i64 0]), (w.heap.size, [.slice A1 vs.length c1, .slice A2 fs.length c2])] := by
    have h := ((Held.nil w).new #[.slice A1 vs.length c1, .slice A2 fs.length c2] 29).new #[.int .i64 0, .int .i64 0, .int .i64 0] 43
    simpa only [World.size_alloc] using h
  have HI : ∀ {bs : List (Nat × List Value)} (W : World), Held w W bs → MeshIn W A1 A2 vs fs := fun W h => ⟨(HIN.out.1.below h.below).more h.size, (HIN.out.2.below h.below).more h.size⟩
  have HT := Lib.hid HT0
  clear hR hf HT0
  obtain ⟨ok, hok⟩ : ∃ ok, ok = okMesh vs fs := ⟨_, rfl⟩
  have HOK := Lib.hid hok
  have HC := sValidMesh_any A1 A2 c1 c2 vs fs _ (HI _ HT.out) HF.out
  rw [← hok] at HC
  clear hok
  have c0' := (HT.out.box 1).c 0
  have c1' := (HT.out.box 1).c 1
  go_enter Tryz.func18, Tryz.ntmps18
  go_wp2_with fail
  refine HC.mono ?_
  rintro e w1 ⟨rfl, hb1⟩
  have HT1 := Lib.hid (HT.out.later hb1)
  clear hb1 HT c0' c1' HC
  have r0 := (HT1.out.box 0).c 0
  have g0 := (HT1.out.box 0).f 0
  have r1 := (HT1.out.box 0).c 1
  have g1 := (HT1.out.box 0).f 1
  have r2 := (HT1.out.box 0).c 2
  have g2 := (HT1.out.box 0).f 2
  have c0' := (HT1.out.box 1).c 0
  have c1' := (HT1.out.box 1).c 1
  cases ok
  · have HE : Hid (vpL vs fs v = (0, 0, 0)) := Lib.hid (by unfold vpL; rw [if_neg (by rw [← HOK.out]; simp)])
    go_wp2_with fail
    exact bodyPost_ret (v := vec 0 0 0) (by simp [results, Tryz.results18, go_sem, r0, r1, r2]) rfl ⟨by rw [HE.out], bset3 HT1.out.below (by omega)⟩
  · have hvl := HF.out.1
    by_cases h0 : 0 ≤ v ∧ v ≤ (vs.length : Int) - 1
    · obtain ⟨k, rfl⟩ : ∃ n : Nat, v = (n : Int) := ⟨v.toNat, by omega⟩
      have hk : k < vs.length := by omega
      have hkf : (k : Int) < (vs.length : Int) := by omega
      have hkf0 : (0 : Int) ≤ (k : Int) := by omega
      have HYES := inV_yes (k : Int) 0 ((vs.length : Int) - 1) w1 h0.1 h0.2
      have HE := Lib.hid (show vpL vs fs k = if (rimL vs fs k).length = 2 then avgL ((6, gV vs k) :: ones ((rimL vs fs k).map (gV vs))) else if rimL vs fs k ≠ [] ∨ vertF vs fs k = [] then gV vs k else avgL (inL vs fs k) by unfold vpL; rw [if_pos ⟨HOK.out.symm, by omega, by omega⟩])
      have HFL := Lib.hid (vertF_len64 vs fs k)
      have HRL := Lib.hid (rim_len vs fs k)
      have HRI := Lib.hid (fun i (h : i ∈ rimL vs fs k) => rim_in h)
      have HVI := Lib.hid (fun i => gV_in (ok_vec HOK.out.symm) i)
      have HFM := Lib.hid (fun i (h : i ∈ vertF vs fs k) => vertF_mem h)
      have HNM := Lib.hid (fun i (h : i ∈ nbM vs fs k) => nbM_in h)
      have HCT := Lib.hid (fun h => nb_count HOK.out.symm k h)
      have HIE := Lib.hid (fun h => inS_eq HOK.out.symm k h)
      obtain ⟨bv, ov, p, rfl, hbv, hp, v00, v01, v02⟩ := HIN.out.1.vecK hk
      have hgp : gV vs k = p := by rw [gV_nat _ _ hk]; exact hp
      have HPB := HVI.out (k : Int)
      rw [hgp] at HE HPB
      have d0 := (HT1.out.below.cell (p := ⟨bv, ov + k * 3, none⟩) hbv).trans v00
      have d1 := (HT1.out.below.cell (p := ⟨bv, ov + k * 3 + 1, none⟩) hbv).trans v01
      have d2 := (HT1.out.below.cell (p := ⟨bv, ov + k * 3 + 2, none⟩) hbv).trans v02
      have HPI := Lib.hid HPB
      have HGP := Lib.hid hgp
      have hPw : w.heap.size + 1 < w1.heap.size := (HT1.out.box 0).lt
      have HT2 : Hid (Held w (w1.alloc (.cells #[.int .i64 p.1, .int .i64 p.2.1, .int .i64 p.2.2] 43)) [(w.heap.size + 1, [.int .i64 0, .int .i64 0, .int .i64 0]), (w.heap.size, [.slice (some ⟨bv, ov, none⟩) vs.length c1, .slice A2 fs.length c2]), (w1.heap.size, vg p)]) := Lib.hid (by
        have h := HT1.out.new #[.int .i64 p.1, .int .i64 p.2.1, .int .i64 p.2.2] 43
        exact h.pick (by simp [vg]))
      have HRM := sRim_any (some ⟨bv, ov, none⟩) A2 c1 c2 vs fs k _ (HI _ HT2.out) HF.out
      obtain ⟨R, hR⟩ : ∃ R, R = rimL vs fs k := ⟨_, rfl⟩
      obtain ⟨F, hF⟩ : ∃ F, F = vertF vs fs k := ⟨_, rfl⟩
      obtain ⟨N, hN⟩ : ∃ N, N = nbM vs fs k := ⟨_, rfl⟩
      have HVF := Lib.hid (fun (W : World) (h : MeshIn W (some ⟨bv, ov, none⟩) A2 vs fs) => sVertexFaces_any (some ⟨bv, ov, none⟩) A2 c1 c2 vs fs k W h HF.out)
      have HNB := Lib.hid (fun (W : World) (h : MeshIn W (some ⟨bv, ov, none⟩) A2 vs fs) => sNeighbors_any (some ⟨bv, ov, none⟩) A2 c1 c2 vs fs k W h HF.out)
      have HIS : Hid (rimL vs fs k = [] → divV ((F.length : Int) * (F.length : Int)) (sumV (mulV (((F.length : Int) - 3) * (F.length : Int)) p :: (F.map (fpI vs fs) ++ N.flatMap fun b => [p, gV vs b]))) = avgL (inL vs fs k)) := Lib.hid (fun h => by
        have h2 := HIE.out h
        unfold inS at h2
        dsimp only at h2
        rw [hgp, ← hF, ← hN] at h2
        exact h2)
      rw [← hR] at HE HRL HRI HCT HRM HIS
      rw [← hF] at HE HFL HFM HCT HVF
      rw [← hN] at HNM HCT HNB
      clear hp hgp HPB HIE v00 v01 v02 hR hF hN h0
      go_wp2_with fail
      refine HYES.mono ?_
      rintro e w1' ⟨rfl, rfl⟩
      clear HYES r0 r1 r2 g0 g1 g2
      have c1'' := (HT2.out.box 1).c 1
      have c0'' := (HT2.out.box 1).c 0
      go_wp2_with fail
      refine HRM.mono ?_
      rintro e w4 ⟨A7, c7, rfl, ho4, hb4⟩
      rw [World.size_alloc] at ho4
      have HT4 := Lib.hid (HT2.out.later hb4)
      have HO4 := Lib.hid ho4
      have hz4 : w1.heap.size < w4.heap.size := (HT4.out.box 2).lt
      clear hb4 ho4 HRM HT2 c0' c1' c0'' c1'' d0 d1 d2 HT1
      have r0 := (HT4.out.box 0).c 0
      have g0 := (HT4.out.box 0).f 0
      have r1 := (HT4.out.box 0).c 1
      have g1 := (HT4.out.box 0).f 1
      have r2 := (HT4.out.box 0).c 2
      have g2 := (HT4.out.box 0).f 2
      have c0' := (HT4.out.box 1).c 0
      have c1' := (HT4.out.box 1).c 1
      have k0 := (HT4.out.box 2).c 0
      have k1 := (HT4.out.box 2).c 1
      have k2 := (HT4.out.box 2).c 2
      by_cases hr2 : R.length = 2
      · rw [if_pos hr2] at HE
        obtain ⟨x0, x1, rfl⟩ : ∃ j0 j1, R = [j0, j1] := two_off hr2
        obtain ⟨g7, rfl, hg7⟩ : ∃ g, A7 = some ⟨g, 0, none⟩ ∧ w1.heap.size + 1 ≤ g := by
          rcases HO4.out.2 with ⟨_, h⟩ | ⟨g, cap, cur, h, hb, _⟩
          · simp at h
          · injection h with h; exact ⟨g, h, hb⟩
        have hx0 := HRI.out x0 (by simp)
        have hx1 := HRI.out x1 (by simp)
        obtain ⟨j0, rfl⟩ : ∃ n : Nat, x0 = (n : Int) := ⟨x0.toNat, by omega⟩
        obtain ⟨j1, rfl⟩ : ∃ n : Nat, x1 = (n : Int) := ⟨x1.toNat, by omega⟩
        have l0 : j0 < vs.length := by omega
        have l1 : j1 < vs.length := by omega
        have HQ0 := HVI.out (j0 : Int)
        have HQ1 := HVI.out (j1 : Int)
        obtain ⟨_, _, q0, ea, _, e0, v00, v01, v02⟩ := HIN.out.1.vecK l0
        simp only [Option.some.injEq, Addr.mk.injEq, and_true] at ea
        obtain ⟨rfl, rfl⟩ := ea
        obtain ⟨_, _, q1, ea, _, e1, v10, v11, v12⟩ := HIN.out.1.vecK l1
        simp only [Option.some.injEq, Addr.mk.injEq, and_true] at ea
        obtain ⟨rfl, rfl⟩ := ea
        have hg0 : gV vs j0 = q0 := by rw [gV_nat _ _ l0]; exact e0
        have hg1 : gV vs j1 = q1 := by rw [gV_nat _ _ l1]; exact e1
        rw [hg0] at HQ0
        rw [hg1] at HQ1
        have HEV : Hid (vpL vs fs k = divV 8 (sumV [mulV 6 p, q0, q1])) := Lib.hid (by rw [HE.out]; simp only [List.map_cons, List.map_nil, hg0, hg1]; exact avg_six _ _ _)
        have HTI := Lib.hid (mulV_bd (k := 6) (v := p) (by decide) HPI.out)
        have HSU := Lib.hid (show ∀ x ∈ [mulV 6 p, q0, q1], InV 4096000000 x from fun x hx => by
          simp only [List.mem_cons, List.not_mem_nil, or_false] at hx
          rcases hx with rfl | rfl | rfl
          · exact HTI.out
          · exact HQ0.mono (by decide)
          · exact HQ1.mono (by decide))
        have HSB := Lib.hid ((sumV_bd (m := 4096000000) (by decide) HSU.out).mono (n := 8192000000000) (by simp))
        have HSM0 := fun (G c : Nat) (W : World) (h : RowC 3 vg W W.heap.size (some ⟨G, 0, none⟩) [mulV 6 p, q0, q1]) => (show Calls Tryz.prog 47 #[.slice (some ⟨G, 0, none⟩) 3 c] W (VecOut (sumV [mulV 6 p, q0, q1]).1 (sumV [mulV 6 p, q0, q1]).2.1 (sumV [mulV 6 p, q0, q1]).2.2 W) from sSum_any (some ⟨G, 0, none⟩) c [mulV 6 p, q0, q1] W h (by simp) HSU.out)
        obtain ⟨s, hs⟩ : ∃ s, s = sumV [mulV 6 p, q0, q1] := ⟨_, rfl⟩
        rw [← hs] at HSM0 HSB HEV
        have HSM := Lib.hid HSM0
        have HM7 := Mbox.of_own HO4.out
        have HT : Held w w4 [(w.heap.size + 1, [.int .i64 0, .int .i64 0, .int .i64 0]), (w.heap.size, [.slice (some ⟨bv, ov, none⟩) vs.length c1, .slice A2 fs.length c2]), (w1.heap.size, vg p), (g7, [.int .i64 (j0 : Int), .int .i64 (j1 : Int)])] := (HT4.out.cons HM7).pick (by simp)
        have HVV := Lib.hid (And.intro v00 (And.intro v01 (And.intro v02 (And.intro v10 (And.intro v11 v12)))))
        have HC : ∀ W, Held w W [(w.heap.size, [.slice (some ⟨bv, ov, none⟩) vs.length c1, .slice A2 fs.length c2]), (w1.heap.size, vg p), (g7, [.int .i64 (j0 : Int), .int .i64 (j1 : Int)])] → (W.cell? ⟨w.heap.size, 0, none⟩ = some (.slice (some ⟨bv, ov, none⟩) vs.length c1) ∧ W.cell? ⟨w1.heap.size, 0, none⟩ = some (.int .i64 p.1) ∧ W.cell? ⟨w1.heap.size, 1, none⟩ = some (.int .i64 p.2.1) ∧ W.cell? ⟨w1.heap.size, 2, none⟩ = some (.int .i64 p.2.2) ∧ W.cell? ⟨g7, 0, none⟩ = some (.int .i64 j0) ∧ W.cell? ⟨g7, 1, none⟩ = some (.int .i64 j1) ∧ W.cell? ⟨bv, ov + j0 * 3, none⟩ = some (.int .i64 q0.1) ∧ W.cell? ⟨bv, ov + j0 * 3 + 1, none⟩ = some (.int .i64 q0.2.1) ∧ W.cell? ⟨bv, ov + j0 * 3 + 2, none⟩ = some (.int .i64 q0.2.2) ∧ W.cell? ⟨bv, ov + j1 * 3, none⟩ = some (.int .i64 q1.1) ∧ W.cell? ⟨bv, ov + j1 * 3 + 1, none⟩ = some (.int .i64 q1.2.1) ∧ W.cell? ⟨bv, ov + j1 * 3 + 2, none⟩ = some (.int .i64 q1.2.2)) := fun W h => ⟨(h.box 0).c 0, (h.box 1).c 0, (h.box 1).c 1, (h.box 1).c 2, (h.box 2).c 0, (h.box 2).c 1, (h.below.cell (p := ⟨bv, ov + j0 * 3, none⟩) hbv).trans HVV.out.1, (h.below.cell (p := ⟨bv, ov + j0 * 3 + 1, none⟩) hbv).trans HVV.out.2.1, (h.below.cell (p := ⟨bv, ov + j0 * 3 + 2, none⟩) hbv).trans HVV.out.2.2.1, (h.below.cell (p := ⟨bv, ov + j1 * 3, none⟩) hbv).trans HVV.out.2.2.2.1, (h.below.cell (p := ⟨bv, ov + j1 * 3 + 1, none⟩) hbv).trans HVV.out.2.2.2.2.1, (h.below.cell (p := ⟨bv, ov + j1 * 3 + 2, none⟩) hbv).trans HVV.out.2.2.2.2.2⟩
        have m0 : (0 : Int) ≤ (j0 : Int) := by omega
        have m1 : (j0 : Int) < (vs.length : Int) := by omega
        have m2 : (0 : Int) ≤ (j1 : Int) := by omega
        have m3 : (j1 : Int) < (vs.length : Int) := by omega
        clear hr2 HSM0 HE HSU hs HM7 HO4 HT4 r0 r1 r2 g0 g1 g2 c0' c1' k0 k1 k2 v00 v01 v02 v10 v11 v12 e0 e1 hg0 hg1 HQ0 HQ1 HVF HNB HIS HCT HFL HFM HNM
        go_upto_region 6 with fail
        go_region_held3 (fun W => (W.cell? ⟨w.heap.size, 0, none⟩ = some (.slice (some ⟨bv, ov, none⟩) vs.length c1) ∧ W.cell? ⟨w1.heap.size, 0, none⟩ = some (.int .i64 p.1) ∧ W.cell? ⟨w1.heap.size, 1, none⟩ = some (.int .i64 p.2.1) ∧ W.cell? ⟨w1.heap.size, 2, none⟩ = some (.int .i64 p.2.2) ∧ W.cell? ⟨g7, 0, none⟩ = some (.int .i64 j0) ∧ W.cell? ⟨g7, 1, none⟩ = some (.int .i64 j1) ∧ W.cell? ⟨bv, ov + j0 * 3, none⟩ = some (.int .i64 q0.1) ∧ W.cell? ⟨bv, ov + j0 * 3 + 1, none⟩ = some (.int .i64 q0.2.1) ∧ W.cell? ⟨bv, ov + j0 * 3 + 2, none⟩ = some (.int .i64 q0.2.2) ∧ W.cell? ⟨bv, ov + j1 * 3, none⟩ = some (.int .i64 q1.1) ∧ W.cell? ⟨bv, ov + j1 * 3 + 1, none⟩ = some (.int .i64 q1.2.1) ∧ W.cell? ⟨bv, ov + j1 * 3 + 2, none⟩ = some (.int .i64 q1.2.2)))
          (first | (with_reducible exact HC _ HT.tail) | (with_reducible exact HC _ HT.drew.tail) | (with_reducible exact HC _ (HT.tail.far3 (by omega) (by simp; omega) _ _ _)) | exact HC _ (HT.later (by go_grown)).tail)
          (first | (go_at_call 48; refine Calls.mono (sTimes_any p 6 _ HTI.out) ?_; rintro e w6 ⟨rfl, hb6⟩; (first | (have HT := HT.later hb6) | (have HT := HT.drew.later hb6))) | (go_at_call 47; refine Calls.mono (HSM.out _ _ _ ?_) ?_; (first | exact RowC.of_own vg_len (lit_three _ _ _ _) rfl | exact (RowC.of_own vg_len (lit_three _ _ _ _) rfl).later (by go_grown)); rintro e w7 ⟨rfl, hb7⟩; have HT := Held.later (HT.later (by go_grown)) hb7) | (go_at_call 46; refine Calls.mono (sBy_any s 8 _ HSB.out) ?_; rintro e w8 ⟨rfl, hb8⟩; (first | (have HT := HT.later hb8) | (have HT := HT.drew.later hb8)); have r0 := (HT.box 0).c 0; have g0 := (HT.box 0).f 0; have r1 := (HT.box 0).c 1; have g1 := (HT.box 0).f 1; have r2 := (HT.box 0).c 2; have g2 := (HT.box 0).f 2))
        all_goals go_wp2
        all_goals exact bodyPost_ret (v := vec (divV 8 s).1 (divV 8 s).2.1 (divV 8 s).2.2) (by simp [results, Tryz.results18, go_sem, r0, r1, r2]) rfl ⟨by rw [HEV.out], bset3 HT.below (by omega)⟩
      · rw [if_neg hr2] at HE
        have hr2' : ¬ ((R.length : Int) = 2) := by omega
        go_wp2_with fail
        refine (HVF.out _ (HI _ HT4.out)).mono ?_
        rintro e w5 ⟨A5, c5, rfl, ho5, hb5⟩
        have HT5 := Lib.hid (HT4.out.later hb5)
        have HRF := Lib.hid (Row.of_own ho5)
        clear hb5 ho5 HVF HT4 HO4 r0 r1 r2 g0 g1 g2 c0' c1' k0 k1 k2
        have r0 := (HT5.out.box 0).c 0
        have g0 := (HT5.out.box 0).f 0
        have r1 := (HT5.out.box 0).c 1
        have g1 := (HT5.out.box 0).f 1
        have r2 := (HT5.out.box 0).c 2
        have g2 := (HT5.out.box 0).f 2
        have c0' := (HT5.out.box 1).c 0
        have c1' := (HT5.out.box 1).c 1
        have k0 := (HT5.out.box 2).c 0
        have k1 := (HT5.out.box 2).c 1
        have k2 := (HT5.out.box 2).c 2
        by_cases hv : R ≠ [] ∨ F = []
        · rw [if_pos hv] at HE
          by_cases hr0 : R = []
          · have hF : F = [] := by rcases hv with h | h; exact absurd hr0 h; exact h
            subst hr0 hF
            clear hv
            go_wp2_with fail
            exact bodyPost_ret (v := vec p.1 p.2.1 p.2.2) (by simp [results, Tryz.results18, go_sem, r0, r1, r2]) rfl ⟨by rw [HE.out], bset3 HT5.out.below (by omega)⟩
          · have hrp : 0 < R.length := List.length_pos_iff.2 hr0
            have hrp' : (0 : Int) < (R.length : Int) := by omega
            clear hv hr0
            go_wp2_with fail
            exact bodyPost_ret (v := vec p.1 p.2.1 p.2.2) (by simp [results, Tryz.results18, go_sem, r0, r1, r2]) rfl ⟨by rw [HE.out], bset3 HT5.out.below (by omega)⟩
        · rw [if_neg hv] at HE
          have hr0 : R = [] := Decidable.not_not.1 fun h => hv (.inl h)
          have hf0 : F ≠ [] := fun h => hv (.inr h)
          subst hr0
          have hfp : 0 < F.length := List.length_pos_iff.2 hf0
          have hfp' : ¬ ((F.length : Int) = 0) := by omega
          have hfp2 : ¬ (F.length = 0) := by omega
          have hfl := HFL.out
          have hNF : N.length = F.length := HCT.out rfl
          have HIS2 := Lib.hid (HIS.out rfl)
          have HNF := Lib.hid hNF
          have hmb := mul_bd (a := (F.length : Int) - 3) (b := (F.length : Int)) (m := 61) (n := 64) (by omega) (by omega)
          have hmb2 := mul_bd (a := (F.length : Int)) (b := (F.length : Int)) (m := 64) (n := 64) (by omega) (by omega)
          have e1 := wrap_in (a := (F.length : Int) - 3) (by omega)
          have e2 := wrap_in (a := ((F.length : Int) - 3) * (F.length : Int)) (by omega)
          have e3 := wrap_in (a := (F.length : Int) * (F.length : Int)) (by omega)
          have HTI := Lib.hid (mulV_bd (k := ((F.length : Int) - 3) * (F.length : Int)) (v := p) (by omega) HPI.out)
          obtain ⟨mm, hmm⟩ : ∃ mm, mm = ((F.length : Int) - 3) * (F.length : Int) := ⟨_, rfl⟩
          obtain ⟨nn, hnn⟩ : ∃ nn, nn = (F.length : Int) * (F.length : Int) := ⟨_, rfl⟩
          have e2' : IntKind.i64.wrap (((F.length : Int) - 3) * (F.length : Int)) = mm := by rw [hmm]; exact e2
          have e3' : IntKind.i64.wrap ((F.length : Int) * (F.length : Int)) = nn := by rw [hnn]; exact e3
          rw [← hmm] at HTI HIS2
          rw [← hnn] at HIS2
          clear hv hf0 hNF hmb hmb2 e2 e3 hmm hnn HIS HCT hvl
          go_wp2_with fail
          refine (sTimes_any p mm _ HTI.out).mono ?_
          rintro e w6 ⟨rfl, hb6⟩
          have HT6 := Lib.hid (HT5.out.later hb6)
          have HRF6 := Lib.hid (HRF.out.later hb6)
          clear hb6 HT5 HRF r0 r1 r2 g0 g1 g2 c0' c1' k0 k1 k2
          obtain ⟨M, hM⟩ : ∃ M, M = mulV mm p := ⟨_, rfl⟩
          rw [← hM] at HTI HIS2 ⊢
          have HBX := Lib.hid (HT6.out.alloc (.cells #[.int .i64 M.1, .int .i64 M.2.1, .int .i64 M.2.2] 43))
          have HO6 := Lib.hid (lit_one w6 M)
          have HB6 : Hid (Below w6.heap.size w6 (w6.alloc (.cells #[.int .i64 M.1, .int .i64 M.2.1, .int .i64 M.2.2] 43))) := Lib.hid (by go_grown)
          have hz6 : w1.heap.size < w6.heap.size := (HT6.out.box 2).lt
          clear hM HT6
          go_wp2
          go_loopw [9, 79] (fun u i wr => ∃ j : Nat, j ≤ F.length ∧ i = .int .i64 j ∧ wr.ownsRow w6.heap.size 43 3 u (1 + j) (([M] ++ (F.take j).map (fpI vs fs)).flatMap vg) ∧ Held w wr [(w.heap.size + 1, [.int .i64 0, .int .i64 0, .int .i64 0]), (w.heap.size, [.slice (some ⟨bv, ov, none⟩) vs.length c1, .slice A2 fs.length c2]), (w1.heap.size, vg p)] ∧ Below w6.heap.size w6 wr) (fun _ i _ => F.length - (intOf i).toNat)
          case atStart => exact ⟨0, Nat.zero_le _, rfl, HO6.out, HBX.out, HB6.out⟩
          case round =>
            clear HBX HO6 HB6
            obtain ⟨j, hj, rfl, hown, ht, hb⟩ := hrel
            have HO := Lib.hid hown
            have HT := Lib.hid ht
            have HB := Lib.hid hb
            clear hown ht hb
            by_cases hlt : j < F.length
            · obtain ⟨bi, oi, rfl, hbi, hci⟩ := HRF6.out.at hlt
              have hx0 := HFM.out _ (List.getElem_mem hlt)
              have HTK := Lib.hid (List.take_succ_eq_append_getElem hlt)
              obtain ⟨x, hx⟩ : ∃ x, x = F[j] := ⟨_, rfl⟩
              rw [← hx] at hci hx0
              simp only [← hx] at HTK
              have hci' := (HB.out.cell (p := ⟨bi, oi + j, none⟩) hbi).trans hci
              have c0' := (HT.out.box 1).c 0
              have c1' := (HT.out.box 1).c 1
              have HCC := sFacePoint_any (some ⟨bv, ov, none⟩) A2 c1 c2 vs fs x wr (HI _ HT.out) HF.out
              rw [show fpL vs fs x = fpI vs fs x by unfold fpL; rw [if_pos ⟨HOK.out.symm, hx0.1, hx0.2⟩]] at HCC
              obtain ⟨v, hv⟩ : ∃ v, v = fpI vs fs x := ⟨_, rfl⟩
              rw [← hv] at HCC
              have HV := Lib.hid hv
              clear hv hx hci hx0 e1 e2' e3'
              go_wp2_with fail
              refine HCC.mono ?_
              rintro e w7 ⟨rfl, hb7⟩
              have HT7 := Lib.hid (HT.out.later hb7)
              have HO7 := Lib.hid (own_keep' HO.out hb7)
              have HB7 := Lib.hid (HB.out.trans (hb7.mono HB.out.size))
              clear hb7 HCC HT HO HB c0' c1' hci'
              go_wp2_with (at_builtin; refine wpList_appN w7 rfl _ _ 27 rfl w6.heap.size 43 (vec 0 0 0) 3 24 Tryz.underlying27 infoVec rfl (by omega) _ _ _ (by rfl) HO7.out #[.int .i64 v.1, .int .i64 v.2.1, .int .i64 v.2.2] rfl (by rfl) (by simp [Value.oneCell']) (by have := hfl; unfold maxLen; omega) (by have := hfl; omega) (by have := HB7.out.size; omega) ?_)
              intro v5 w8 ho5 hg5
              have hop : ∀ q, u9.ownBlock = some q → w6.heap.size ≤ q := own_block HO7.out
              have HT5 := Lib.hid (heldGrown' HT7.out hg5 (fun q hq => by have := hop q hq; omega) (fun p hp c => by
                have h1 := hop _ c.symm
                simp only [List.mem_cons, List.not_mem_nil, or_false] at hp
                rcases hp with rfl | rfl | rfl <;> simp at h1 <;> omega))
              have HB5 := Lib.hid (below_own HB7.out hg5 HB7.out.size hop)
              have HO5 : Hid (w8.ownsRow w6.heap.size 43 3 v5 (1 + (j + 1)) (([M] ++ (F.take (j + 1)).map (fpI vs fs)).flatMap vg)) := Lib.hid (by
                have hl9 : ([M] ++ (F.take (j + 1)).map (fpI vs fs)).flatMap vg = vg M ++ (List.flatMap vg (List.take j (List.map (fpI vs fs) F)) ++ [.int .i64 v.1, .int .i64 v.2.1, .int .i64 v.2.2]) := by
                  rw [HTK.out, List.map_append, List.map_singleton, ← HV.out, ← List.append_assoc, flat_one, List.map_take]
                  simp [List.append_assoc]
                rw [hl9]
                exact ho5)
              clear ho5 hg5 hop HO7 HT7 HB7
              go_wp2_with fail
              go_roundw
              case rel => exact ⟨j + 1, by omega, by go_num, HO5.out, HT5.out, HB5.out⟩
              case measure => simp [intOf]; omega
            · have e : j = F.length := by omega
              have hlt' : ¬ ((j : Int) < (F.length : Int)) := by omega
              have ho := HO.out
              rw [e, List.take_length] at ho
              have HO8 := Lib.hid ho
              have hz8 : w6.heap.size ≤ wr.heap.size := HB.out.size
              have c0' := (HT.out.box 1).c 0
              have c1' := (HT.out.box 1).c 1
              clear ho HO HB HRF6
              go_wp2_with fail
              refine (HNB.out _ (HI _ HT.out)).mono ?_
              rintro e w9 ⟨A9, c9, rfl, ho9, hb9⟩
              have HT9 := Lib.hid (HT.out.later hb9)
              have HO9 := Lib.hid (own_keep' HO8.out hb9)
              have HN9 := Lib.hid ho9
              have hz9 : w6.heap.size ≤ w9.heap.size := Nat.le_trans hz8 hb9.size
              clear hb9 ho9 HO8 HT c0' c1' HNB
              have HN9' : Hid (w9.ownsRow w6.heap.size 3 1 (.slice A9 N.length c9) N.length (N.map I64)) := Lib.hid (own_base HN9.out hz8)
              have HO9' : Hid (w9.ownsRow w6.heap.size 43 3 u9 (1 + F.length + 2 * 0) ((M :: (F.map (fpI vs fs) ++ (N.take 0).flatMap fun b => [p, gV vs b])).flatMap vg)) := Lib.hid (by
                have h := HO9.out
                simp only [List.take_zero, List.flatMap_nil, List.append_nil]
                exact h)
              clear HN9 HO9
              obtain ⟨i9, hi9, hz90, hz91, hz92⟩ := info_parts infoVec
              go_wp2
              go_loopw [9, 94] (fun u i wr2 => ∃ j2 : Nat, j2 ≤ N.length ∧ i = .int .i64 j2 ∧ wr2.ownsRow w6.heap.size 43 3 u (1 + F.length + 2 * j2) ((M :: (F.map (fpI vs fs) ++ (N.take j2).flatMap fun b => [p, gV vs b])).flatMap vg) ∧ Held w wr2 [(w.heap.size + 1, [.int .i64 0, .int .i64 0, .int .i64 0]), (w.heap.size, [.slice (some ⟨bv, ov, none⟩) vs.length c1, .slice A2 fs.length c2]), (w1.heap.size, vg p)] ∧ wr2.ownsRow w6.heap.size 3 1 (.slice A9 N.length c9) N.length (N.map I64)) (fun _ i _ => N.length - (intOf i).toNat)
              case atStart => exact ⟨0, Nat.zero_le _, rfl, HO9'.out, HT9.out, HN9'.out⟩
              case round =>
                clear HO9' HT9 HN9'
                obtain ⟨j2, hj2, rfl, hown, ht, hn⟩ := hrel
                have HO := Lib.hid hown
                have HT := Lib.hid ht
                have HN := Lib.hid hn
                clear hown ht hn
                have hnl : N.length ≤ 64 := by have := HNF.out; omega
                by_cases hlt2 : j2 < N.length
                · obtain ⟨bi, oi, hAe, hbi, hci⟩ := (Row.of_own HN.out).at hlt2
                  have hx0 := HNM.out _ (List.getElem_mem hlt2)
                  have HTK := Lib.hid (List.take_succ_eq_append_getElem hlt2)
                  obtain ⟨x, hx⟩ : ∃ x, x = N[j2] := ⟨_, rfl⟩
                  rw [← hx] at hci hx0
                  simp only [← hx] at HTK
                  clear hx
                  subst hAe
                  obtain ⟨i0, rfl⟩ : ∃ n : Nat, x = (n : Int) := ⟨x.toNat, by omega⟩
                  have l0 : i0 < vs.length := by omega
                  obtain ⟨_, _, q, ea, _, e0, v00, v01, v02⟩ := HIN.out.1.vecK l0
                  simp only [Option.some.injEq, Addr.mk.injEq, and_true] at ea
                  obtain ⟨rfl, rfl⟩ := ea
                  have HG : Hid (gV vs i0 = q) := Lib.hid (by rw [gV_nat _ _ l0]; exact e0)
                  have m0 : (0 : Int) ≤ (i0 : Int) := by omega
                  have m1 : (i0 : Int) < (vs.length : Int) := by omega
                  have HVV := Lib.hid (And.intro v00 (And.intro v01 v02))
                  have HC : ∀ W, Held w W [(w.heap.size, [.slice (some ⟨bv, ov, none⟩) vs.length c1, .slice A2 fs.length c2]), (w1.heap.size, vg p)] → (W.cell? ⟨w.heap.size, 0, none⟩ = some (.slice (some ⟨bv, ov, none⟩) vs.length c1) ∧ W.cell? ⟨w1.heap.size, 0, none⟩ = some (.int .i64 p.1) ∧ W.cell? ⟨w1.heap.size, 1, none⟩ = some (.int .i64 p.2.1) ∧ W.cell? ⟨w1.heap.size, 2, none⟩ = some (.int .i64 p.2.2) ∧ W.cell? ⟨bv, ov + i0 * 3, none⟩ = some (.int .i64 q.1) ∧ W.cell? ⟨bv, ov + i0 * 3 + 1, none⟩ = some (.int .i64 q.2.1) ∧ W.cell? ⟨bv, ov + i0 * 3 + 2, none⟩ = some (.int .i64 q.2.2)) := fun W h => ⟨(h.box 0).c 0, (h.box 1).c 0, (h.box 1).c 1, (h.box 1).c 2, (h.below.cell (p := ⟨bv, ov + i0 * 3, none⟩) hbv).trans HVV.out.1, (h.below.cell (p := ⟨bv, ov + i0 * 3 + 1, none⟩) hbv).trans HVV.out.2.1, (h.below.cell (p := ⟨bv, ov + i0 * 3 + 2, none⟩) hbv).trans HVV.out.2.2⟩
                  have HTH := HT.out
                  have HOH := HO.out
                  have hop : ∀ q, u9.ownBlock = some q → w6.heap.size ≤ q := own_block HOH
                  have hjz : (j2 : Int) < (N.length : Int) := by omega
                  have hzr : w6.heap.size ≤ wr.heap.size := by
                    rcases HO.out.2 with ⟨_, h⟩ | ⟨gg, _, _, _, hb, hh, _⟩
                    · omega
                    · have := (Array.getElem?_eq_some_iff.1 hh).1; omega
                  clear v00 v01 v02 e0 hx0 e1 e2' e3'
                  go_upto_region 20 with fail
                  go_region_held3 (fun W => (W.cell? ⟨w.heap.size, 0, none⟩ = some (.slice (some ⟨bv, ov, none⟩) vs.length c1) ∧ W.cell? ⟨w1.heap.size, 0, none⟩ = some (.int .i64 p.1) ∧ W.cell? ⟨w1.heap.size, 1, none⟩ = some (.int .i64 p.2.1) ∧ W.cell? ⟨w1.heap.size, 2, none⟩ = some (.int .i64 p.2.2) ∧ W.cell? ⟨bv, ov + i0 * 3, none⟩ = some (.int .i64 q.1) ∧ W.cell? ⟨bv, ov + i0 * 3 + 1, none⟩ = some (.int .i64 q.2.1) ∧ W.cell? ⟨bv, ov + i0 * 3 + 2, none⟩ = some (.int .i64 q.2.2)))
                    (first | exact HC _ (heldGrown' (Held.later HTH (by go_grown)) hgrow (fun q hq => by have := hop q hq; omega) (fun p hp c => by
                        have h1 := hop _ c.symm
                        simp only [List.mem_cons, List.not_mem_nil, or_false] at hp
                        rcases hp with rfl | rfl | rfl <;> simp at h1 <;> omega)).tail | exact HC _ (HTH.later (by go_grown)).tail)
                    ((refine step_append_lies _ (by rfl) _ _ _ (by rfl) w6.heap.size 43 i9 _ 3 24 Tryz.underlying27 hi9 hz90 hz91 hz92 rfl (by omega) u9 (1 + F.length + 2 * j2) _ (by rfl) (by first | with_reducible exact HOH.alloc _ | with_reducible exact (HOH.alloc _).drew) ⟨wr.heap.size, 0, none⟩ 2 2 [.int .i64 p.1, .int .i64 p.2.1, .int .i64 p.2.2, .int .i64 q.1, .int .i64 q.2.1, .int .i64 q.2.2] (by rfl) (by rfl) (World.news_of_block (cs := #[.int .i64 p.1, .int .i64 p.2.1, .int .i64 p.2.2, .int .i64 q.1, .int .i64 q.2.1, .int .i64 q.2.2]) (t := 43) (fr := (0, 0)) (heap_alloc_new wr _)) (by simp [Value.oneCell']) (by omega) (by unfold maxLen; omega) (by omega) (by simp; omega) _ rfl ?_; intro gg cap w5 hown5 hgrow hat hlt5))
                  all_goals
                    have HT5 := Lib.hid (heldGrown' (Held.later HTH (by go_grown)) hgrow (fun q hq => by have := hop q hq; omega) (fun p hp c => by
                      have h1 := hop _ c.symm
                      simp only [List.mem_cons, List.not_mem_nil, or_false] at hp
                      rcases hp with rfl | rfl | rfl <;> simp at h1 <;> omega))
                    have HN5 := Lib.hid (World.ownsRow.kept (own_keep' HN.out (by go_grown)) hgrow (own_ne HN.out HOH (by decide)))
                    have hl9 : (M :: (F.map (fpI vs fs) ++ (N.take (j2 + 1)).flatMap fun b => [p, gV vs b])).flatMap vg = (M :: (F.map (fpI vs fs) ++ (N.take j2).flatMap fun b => [p, gV vs b])).flatMap vg ++ [.int .i64 p.1, .int .i64 p.2.1, .int .i64 p.2.2, .int .i64 q.1, .int .i64 q.2.1, .int .i64 q.2.2] := by
                      rw [HTK.out, List.flatMap_append]
                      simp only [List.flatMap_cons, List.flatMap_nil, List.append_nil, HG.out, List.flatMap_append, List.append_assoc]
                      rfl
                    have HO5 : Hid (w5.ownsRow w6.heap.size 43 3 (.slice (some ⟨gg, 0, none⟩) (1 + F.length + 2 * j2 + 2) cap) (1 + F.length + 2 * (j2 + 1)) ((M :: (F.map (fpI vs fs) ++ (N.take (j2 + 1)).flatMap fun b => [p, gV vs b])).flatMap vg)) := Lib.hid (by rw [hl9]; exact hown5)
                    clear hown5 hgrow hat HOH HC HTH HT HO HN hl9
                    go_wp2_with fail
                    go_roundw
                    case rel => exact ⟨j2 + 1, by omega, by go_num, HO5.out, HT5.out, HN5.out⟩
                    case measure => simp [intOf]; omega
                · have e : j2 = N.length := by omega
                  have ho := HO.out
                  rw [e, List.take_length] at ho
                  have hlt2' : ¬ ((j2 : Int) < (N.length : Int)) := by omega
                  obtain ⟨cn, hcn⟩ : ∃ cn, cn = 1 + F.length + 2 * N.length := ⟨_, rfl⟩
                  have hlen : (M :: (F.map (fpI vs fs) ++ N.flatMap fun b => [p, gV vs b])).length = cn := by
                    rw [List.length_cons, List.length_append, List.length_map, show (N.flatMap fun b => [p, gV vs b]).length = 2 * N.length from flat_two (fun b => (p, gV vs b)) N]; omega
                  have hcb : cn ≤ 193 := by omega
                  rw [← hcn] at ho
                  obtain ⟨A5, c5, rfl⟩ := own_shape ho
                  have HRV := Lib.hid (RowC.of_own vg_len ho hlen)
                  have HSB := Lib.hid (show ∀ x ∈ M :: (F.map (fpI vs fs) ++ N.flatMap fun b => [p, gV vs b]), InV 4096000000 x from fun x hx => by
                    rcases List.mem_cons.1 hx with rfl | hx
                    · exact HTI.out
                    · rcases List.mem_append.1 hx with hx | hx
                      · obtain ⟨i, hi, rfl⟩ := List.mem_map.1 hx
                        exact (fpI_in HOK.out.symm (HFM.out i hi).1 (HFM.out i hi).2).mono (by decide)
                      · obtain ⟨b, _, hx⟩ := List.mem_flatMap.1 hx
                        simp only [List.mem_cons, List.not_mem_nil, or_false] at hx
                        rcases hx with rfl | rfl
                        · exact HPI.out.mono (by decide)
                        · exact (HVI.out _).mono (by decide))
                  obtain ⟨l, hl⟩ : ∃ l, l = M :: (F.map (fpI vs fs) ++ N.flatMap fun b => [p, gV vs b]) := ⟨_, rfl⟩
                  rw [← hl] at HRV HSB HIS2 hlen
                  have HSM := sSum_any A5 c5 l wr HRV.out (by omega) HSB.out
                  rw [hlen] at HSM
                  have hsb := (sumV_bd (m := 4096000000) (by decide) HSB.out).mono (n := 8192000000000) (by rw [hlen]; omega)
                  obtain ⟨s, hs⟩ : ∃ s, s = sumV l := ⟨_, rfl⟩
                  rw [← hs] at HSM hsb HIS2
                  have HSS := Lib.hid hsb
                  have HTT := Lib.hid HT.out
                  clear hl hs ho hsb HRV HO HT HN HSB HIN hlen hcn hcb e
                  go_wp2_with fail
                  refine HSM.mono ?_
                  rintro e w10 ⟨rfl, hb10⟩
                  have HT10 := Lib.hid (HTT.out.later hb10)
                  clear hb10 HSM HTT
                  go_wp2_with fail
                  refine (sBy_any s nn _ HSS.out).mono ?_
                  rintro e w11 ⟨rfl, hb11⟩
                  have HT11 := Lib.hid (HT10.out.later hb11)
                  clear hb11 HT10 e1 e2' e3'
                  have r0 := (HT11.out.box 0).c 0
                  have g0 := (HT11.out.box 0).f 0
                  have r1 := (HT11.out.box 0).c 1
                  have g1 := (HT11.out.box 0).f 1
                  have r2 := (HT11.out.box 0).c 2
                  have g2 := (HT11.out.box 0).f 2
                  have c0' := (HT11.out.box 1).c 0
                  have c1' := (HT11.out.box 1).c 1
                  go_wp2_with fail
                  exact bodyPost_ret (v := vec (divV nn s).1 (divV nn s).2.1 (divV nn s).2.2) (by simp [results, Tryz.results18, go_sem, r0, r1, r2]) rfl ⟨by rw [HE.out, ← HIS2.out], bset3 HT11.out.below (by omega)⟩
    · have HNO := inV_no v 0 ((vs.length : Int) - 1) w1 h0
      have HE : Hid (vpL vs fs v = (0, 0, 0)) := Lib.hid (by unfold vpL; rw [if_neg (by omega)])
      clear h0
      go_wp2_with fail
      refine HNO.mono ?_
      rintro e w1' ⟨rfl, rfl⟩
      go_wp2_with fail
      exact bodyPost_ret (v := vec 0 0 0) (by simp [results, Tryz.results18, go_sem, r0, r1, r2]) rfl ⟨by rw [HE.out], bset3 HT1.out.below (by omega)⟩


end Go.Proofs.YtdefhepagpgnaaaGreat
