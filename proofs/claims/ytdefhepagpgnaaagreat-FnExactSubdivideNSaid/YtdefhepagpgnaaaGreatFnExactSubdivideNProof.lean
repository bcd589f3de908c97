/-
  Proved: the law FnExactSubdivideN returns true for every input and its arguments read behind the call as they read before. Conditions: none of our own; those of the given row alone.
-/
import Derived.Test.YtdefhepagpgnaaaGreatRows
import Derived.WalkKit
import Derived.ProofKit
import Derived.OpenShut
import Derived.ShutString
import Derived.SliceStrings
import Derived.ChangeOld
import Derived.Below
import Derived.Test.YtdefhepagpgnaaaGreatMem
import Derived.Test.YtdefhepagpgnaaaGreatInts
import Derived.Test.YtdefhepagpgnaaaGreatFlat
import Derived.Test.YtdefhepagpgnaaaGreatVbox
import Derived.Test.YtdefhepagpgnaaaGreatVec
import Derived.Test.YtdefhepagpgnaaaGreatVlaw
import Derived.Test.YtdefhepagpgnaaaGreatHeld
import Derived.Test.YtdefhepagpgnaaaGreatRowC
import Derived.Test.YtdefhepagpgnaaaGreatIntS
import Derived.Test.YtdefhepagpgnaaaGreatVecS
import Derived.Test.YtdefhepagpgnaaaGreatSS
import Derived.Test.YtdefhepagpgnaaaGreatMkA
import Derived.Test.YtdefhepagpgnaaaGreatMkB
import Derived.Test.YtdefhepagpgnaaaGreatMkC
import Derived.Test.YtdefhepagpgnaaaGreatMkD
import Derived.Test.YtdefhepagpgnaaaGreatMF
import Derived.Test.YtdefhepagpgnaaaGreatMG
import Derived.Test.YtdefhepagpgnaaaGreatMH
import Derived.Test.YtdefhepagpgnaaaGreatMM
import Derived.Test.YtdefhepagpgnaaaGreatMN
import Derived.Test.YtdefhepagpgnaaaGreatMV
import Derived.Test.YtdefhepagpgnaaaGreatMW
import Derived.Test.YtdefhepagpgnaaaGreatMVF
import Derived.Test.YtdefhepagpgnaaaGreatMT
import Derived.Test.YtdefhepagpgnaaaGreatME
import Derived.Test.YtdefhepagpgnaaaGreatMEF
import Derived.Test.YtdefhepagpgnaaaGreatMSo
import Derived.Test.YtdefhepagpgnaaaGreatMSP
import Derived.Test.YtdefhepagpgnaaaGreatMP
import Derived.Test.YtdefhepagpgnaaaGreatMEd
import Derived.Test.YtdefhepagpgnaaaGreatMLw
import Derived.Test.YtdefhepagpgnaaaGreatMNb
import Derived.Test.YtdefhepagpgnaaaGreatMB
import Derived.Test.YtdefhepagpgnaaaGreatMBd
import Derived.Test.YtdefhepagpgnaaaGreatKp
import Derived.Test.YtdefhepagpgnaaaGreatKa
import Derived.Test.YtdefhepagpgnaaaGreatKb
import Derived.Test.YtdefhepagpgnaaaGreatKc
import Derived.Test.YtdefhepagpgnaaaGreatKs
import Derived.Test.YtdefhepagpgnaaaGreatKt
import Derived.Test.YtdefhepagpgnaaaGreatKe
import Derived.Test.YtdefhepagpgnaaaGreatKv
import Derived.Test.YtdefhepagpgnaaaGreatKw
import Derived.Test.YtdefhepagpgnaaaGreatKx
import Derived.Test.YtdefhepagpgnaaaGreatLn
import Derived.Test.YtdefhepagpgnaaaGreatKz
import Derived.Test.YtdefhepagpgnaaaGreatKg
import Derived.Test.YtdefhepagpgnaaaGreatKj
import Derived.Test.YtdefhepagpgnaaaGreatKk
import Derived.Test.YtdefhepagpgnaaaGreatKl
import Derived.Deep.RegionHeld3
import Derived.Deep.DeepCutAuto
import Derived.Handy
namespace Go.Proofs.YtdefhepagpgnaaaGreat.fnExactSubdivideN
open Go.ChangeShapes Go.WideShapes Go.ChangeAt Go.RowKit
open Go.ChangeMaps (open_string shut_string)
set_option linter.unusedVariables false

theorem own : ownKnob Tryz.prog.godebug = none := by kernel_rfl
theorem laidOut : laidOutB Tryz.prog = true := by kernel_rfl
theorem flat3 : FlatI Tryz.prog 3 (Tryz.prog.cellsOf 3) := by rw [show Tryz.prog.cellsOf 3 = 1 by kernel_rfl]; exact flat1 Tryz.underlying3
theorem cells67 : Tryz.prog.cellsOf 67 = 3 := by kernel_rfl
theorem flat67_ : FlatI Tryz.prog 67 3 := flatS Tryz.underlying67 cells67 (by exact ⟨by kernel_rfl, flat3, ⟨by kernel_rfl, flat3, ⟨by kernel_rfl, flat3, by unfold FlatFs; kernel_rfl⟩⟩⟩)
theorem sn_fits (vs : List V3) (fs : List (List Int)) (n : Int) : (stN vs fs n).1.1.length ≤ 1048576 ∧ (stN vs fs n).1.2.length ≤ 1048576 ∧ sumL (stN vs fs n).1.2 ≤ 1048576 ∧ ∀ f ∈ (stN vs fs n).1.2, f.length ≤ 1048576 := by
  have h := fit_st vs fs n
  exact ⟨h.fits.1, h.fits.2.1, h.fits.2.2, fun f hf => by rw [h.2.2 f hf]; omega⟩
theorem toMesh_sm (A1 A2 : Option Addr) (c1 c2 : Nat) (vs : List V3) (fs : List (List Int)) (w : World) (hR : MeshIn w A1 A2 vs fs) (hf : MeshFits vs fs) :
    Calls Tryz.prog 7 #[mv A1 A2 vs.length c1 fs.length c2] w fun e w' => ∃ b B2, e = .returned (mv (some ⟨b, 0, none⟩) B2 vs.length vs.length fs.length fs.length) ∧ Below w.heap.size w w' ∧ MeshIn w' (some ⟨b, 0, none⟩) B2 vs fs :=
  (toMesh_any A1 A2 c1 c2 vs fs w hR hf).mono fun _ _ ⟨g1, g2, ps, he, hb, hs, ho⟩ => ⟨_, _, he, hb, by subst hs; exact ho.read hf⟩
/-- a mesh below block B is read -/
def RdM (B : Nat) (w : World) (A1 A2 : Option Addr) (P : List V3) (F : List (List Int)) : Prop := RowC 3 vg w B A1 P ∧ RowSS w B A2 F
theorem RdM.below {B : Nat} {w w' : World} {A1 A2 : Option Addr} {P : List V3} {F : List (List Int)} (h : RdM B w A1 A2 P F) (hb : Below B w w') : RdM B w' A1 A2 P F := ⟨h.1.below hb, h.2.below hb⟩
theorem RdM.later {w w' : World} {A1 A2 : Option Addr} {P : List V3} {F : List (List Int)} (h : RdM w.heap.size w A1 A2 P F) (hb : Below w.heap.size w w') : RdM w'.heap.size w' A1 A2 P F := ⟨(h.1.below hb).more hb.size, (h.2.below hb).more hb.size⟩
theorem RdM.read {B : Nat} {w : World} {A1 A2 : Option Addr} {P : List V3} {F : List (List Int)} (h : RdM B w A1 A2 P F) (hb : B ≤ w.heap.size) : MeshIn w A1 A2 P F := ⟨h.1.more hb, h.2.more hb⟩
set_option maxRecDepth 100000 in
set_option maxHeartbeats 16000000 in
theorem walk (w : World) (a0 b0 : Option Addr) (c0 d0 : Nat) (x0 : List V3) (y0 : List (List Int)) (r0 : MeshIn w a0 b0 x0 y0) (m0 : x0.length ≤ maxLen ∧ y0.length ≤ maxLen ∧ ∀ xs ∈ y0, xs.length ≤ maxLen) (a1 : Int) (w1 : (Lit.int .i64 a1).wf = true) :
    Calls Tryz.prog 4 #[mv a0 b0 x0.length c0 y0.length d0, .int .i64 a1] w fun e w' => e = .returned (.bool true) ∧ Below w.heap.size w w' := by
  have HIN := Lib.hid r0
  have HMX := Lib.hid m0
  clear r0 m0
  have HT0 : Held w (w.alloc (.cells #[.slice a0 x0.length c0, .slice b0 y0.length d0] 25)) [(w.heap.size, [.slice a0 x0.length c0, .slice b0 y0.length d0])] := by
    have h := (Held.nil w).new #[.slice a0 x0.length c0, .slice b0 y0.length d0] 25
    simpa only [World.size_alloc] using h
  have HI : ∀ {bs : List (Nat × List Value)} (W : World), Held w W bs → MeshIn W a0 b0 x0 y0 := fun W h => ⟨(HIN.out.1.below h.below).more h.size, (HIN.out.2.below h.below).more h.size⟩
  have HS0 := szMesh_any a0 b0 c0 d0 x0 y0 1048576 _ (HI _ HT0).2 (by omega) (by omega) HMX.out.1 HMX.out.2.1 HMX.out.2.2
  by_cases hfit : ((x0.length + (y0.length + sumL y0) : Nat) : Int) ≤ 1048576
  · have HF : Hid (MeshFits x0 y0) := Lib.hid ⟨by omega, by omega, by omega⟩
    rw [if_pos hfit] at HS0
    obtain ⟨q, hq⟩ : ∃ q : Int, q = 1048576 - ((x0.length + (y0.length + sumL y0) : Nat) : Int) := ⟨_, rfl⟩
    rw [← hq] at HS0
    have hq0 : ¬ q < 0 := by omega
    clear hq hfit
    go_enter Tryz.func4, Tryz.ntmps4
    go_wp2_with fail
    refine HS0.mono ?_
    rintro e w1 ⟨rfl, hb1⟩
    have HT := HT0.later hb1
    clear hb1 HT0 HS0
    obtain ⟨P, hP⟩ : ∃ P, P = (stN x0 y0 a1).1.1 := ⟨_, rfl⟩
    obtain ⟨F, hFV⟩ : ∃ F, F = (stN x0 y0 a1).1.2 := ⟨_, rfl⟩
    obtain ⟨ok, hok⟩ : ∃ ok, ok = (stN x0 y0 a1).2 := ⟨_, rfl⟩
    have HLB : Hid (P.length ≤ 1048576 ∧ F.length ≤ 1048576 ∧ sumL F ≤ 1048576 ∧ ∀ f ∈ F, f.length ≤ 1048576) := Lib.hid (by rw [hP, hFV]; exact sn_fits x0 y0 a1)
    have HFM : Hid (MeshFits P F) := Lib.hid ⟨HLB.out.1, HLB.out.2.1, HLB.out.2.2.1⟩
    have HSV : ∀ W b o B c d, MeshIn W (some ⟨b, o, none⟩) B x0 y0 → Calls Tryz.prog 12 #[mv (some ⟨b, o, none⟩) B x0.length c y0.length d, .int .i64 a1] W (fun e w' => ∃ A1 c1 A2 c2, e = .returned (.tuple #[mv A1 A2 P.length c1 F.length c2, .bool ok]) ∧ MeshIn w' A1 A2 P F ∧ Below W.heap.size W w') := fun W b o B c d h => (show Calls _ _ _ W (MeshG W P F ok) by rw [hP, hFV, hok]; exact sSubdivideN_any b o B c d x0 y0 a1 W h HF.out).mono (fun e w' ⟨A1, c1, A2, c2, ps, he, hs, ho, hb⟩ => ⟨A1, c1, A2, c2, he, ho.read hs, hb⟩)
    have HIV : ∀ W b o B c d, MeshIn W (some ⟨b, o, none⟩) B x0 y0 → Calls Tryz.prog 13 #[mv (some ⟨b, o, none⟩) B x0.length c y0.length d, .int .i64 a1] W (fun e w' => ∃ A1 c1 A2 c2 ps, e = .returned (.tuple #[mv A1 A2 P.length c1 F.length c2, .bool ok]) ∧ ps.map Prod.snd = F ∧ OwnG w' W.heap.size A1 c1 A2 c2 P ps ∧ Below W.heap.size W w') := fun W b o B c d h => (show Calls _ _ _ W (MeshG W P F ok) by rw [hP, hFV, hok]; exact subdivideN_any b o B c d x0 y0 a1 W h HF.out).mono (fun e w' h => h)
    have HBB : (ok == ok) = true := by cases ok <;> rfl
    clear hP hFV hok
    have c0' := (HT.box 0).c 0
    have c1' := (HT.box 0).c 1
    go_wp2_with fail
    refine (toMesh_sm a0 b0 c0 d0 x0 y0 _ (HI _ HT) HF.out).mono ?_
    rintro e w2 ⟨A2, B2, rfl, hb2, hm2⟩
    have HT := HT.later hb2
    clear hb2 c0' c1'
    go_wp2_with fail
    refine (HSV _ _ _ _ _ _ hm2).mono ?_
    rintro e w3 ⟨A3, c3, B3, d3, rfl, hm3, hb3⟩
    have hww : w.heap.size < w3.heap.size := ((HT.later hb3).box 0).lt
    have HT := (HT.later hb3).new #[.slice A3 P.length c3, .slice B3 F.length d3] 29
    have RM : RdM w3.heap.size (w3.alloc (.cells #[.slice A3 P.length c3, .slice B3 F.length d3] 29)) A3 B3 P F := RdM.below hm3 (by go_grown)
    obtain ⟨W0, hW0⟩ : ∃ k, k = w3.heap.size := ⟨_, rfl⟩
    rw [← hW0] at HT RM hww
    have HW0 := Lib.hid hW0
    clear hb3 hm2 hm3 hW0
    have c0' := (HT.box 1).c 0
    have c1' := (HT.box 1).c 1
    go_wp2_with fail
    rw [← HW0.out]
    refine (toMesh_any a0 b0 c0 d0 x0 y0 _ (HI _ HT) HF.out).mono ?_
    rintro e w4 ⟨g1, g2, ps, rfl, hb4, hsnd, hm4⟩
    rw [World.size_alloc, ← HW0.out] at hm4
    have HU := Lib.hid hm4.under
    have HSN := Lib.hid hsnd
    have RM := RM.below (hb4.mono (Nat.le_of_lt (HT.box 0).lt))
    have hlw := (HT.box 0).lt
    have hhw := hb4.size
    have HT := (HT.later hb4).new #[.slice (some ⟨g1, 0, none⟩) x0.length x0.length, .slice (some ⟨g2, 0, none⟩) y0.length y0.length] 29
    have hlo : w.heap.size < W0 ∧ W0 < w4.heap.size := ⟨hww, Nat.lt_of_lt_of_le hlw hhw⟩
    have HMO := Lib.hid (hm4.later (show Below w4.heap.size w4 (w4.alloc (.cells #[.slice (some ⟨g1, 0, none⟩) x0.length x0.length, .slice (some ⟨g2, 0, none⟩) y0.length y0.length] 29)) by go_grown))
    have RM : RdM W0 (w4.alloc (.cells #[.slice (some ⟨g1, 0, none⟩) x0.length x0.length, .slice (some ⟨g2, 0, none⟩) y0.length y0.length] 29)) A3 B3 P F := RM.below (Below.mono (show Below w4.heap.size w4 _ by go_grown) (by omega))
    obtain ⟨X0, hX0⟩ : ∃ k, k = w4.heap.size := ⟨_, rfl⟩
    rw [← hX0] at HT HU hlo
    clear hlw hhw hww
    have HX0 := Lib.hid hX0
    clear hb4 hm4 c0' c1' hsnd hX0
    have c0' := (HT.box 0).c 0
    have c1' := (HT.box 0).c 1
    have HX := HMO.out.read (by rw [HSN.out]; exact HF.out)
    rw [HSN.out] at HX
    go_wp2_with fail
    rw [← HX0.out]
    refine (HIV _ _ _ _ _ _ HX).mono ?_
    rintro e w5 ⟨A5, c5, B5, d5, qs, rfl, hqs, ho5, hb5⟩
    rw [World.size_alloc, ← HX0.out] at ho5
    have HQU := Lib.hid ho5.under
    have HQS := Lib.hid hqs
    have hs5 : X0 + 1 ≤ w5.heap.size := by have := hb5.size; rw [World.size_alloc, ← HX0.out] at this; exact this
    have HT := (HT.later hb5).new #[.slice A5 P.length c5, .slice B5 F.length d5] 29
    have hb5a : Below w5.heap.size w5 (w5.alloc (.cells #[.slice A5 P.length c5, .slice B5 F.length d5] 29)) := by go_grown
    have HX := (HX.later hb5).later hb5a
    have HMO := Lib.hid ((HMO.out.later hb5).later hb5a)
    have RM := Lib.hid ((RM.below (hb5.mono (by rw [World.size_alloc, ← HX0.out]; omega))).below (hb5a.mono (by omega)))
    have HO := Lib.hid (ho5.later hb5a)
    obtain ⟨G0, hG0⟩ : ∃ k, k = w5.heap.size := ⟨_, rfl⟩
    rw [← hG0] at HT HQU hs5
    have HG0 := Lib.hid hG0
    have hsz : G0 + 1 ≤ (w5.alloc (.cells #[.slice A5 P.length c5, .slice B5 F.length d5] 29)).heap.size := by rw [World.size_alloc, hG0]; exact Nat.le_refl _
    clear hb5 hb5a ho5 c0' c1' hqs hG0
    have k0 := (HT.box 2).c 0
    have k1 := (HT.box 2).c 1
    have j0 := (HT.box 0).c 0
    have j1 := (HT.box 0).c 1
    go_wp2_with fail
    rw [← HG0.out]
    refine (eqMesh_same _ _ _ _ _ _ _ _ P F _ (HO.out.read HQS.out) (RM.out.read (by omega)) HFM.out).mono ?_
    rintro e w6 ⟨rfl, hb6⟩
    have HT := HT.later hb6
    have HX := HX.later hb6
    have HMO := Lib.hid (HMO.out.later hb6)
    have RM := Lib.hid (RM.out.below (hb6.mono (by omega)))
    have HO := Lib.hid (HO.out.later hb6)
    have hs6 : G0 + 1 ≤ w6.heap.size := Nat.le_trans hsz hb6.size
    have HC : ∀ w0 W : World, Held w0 W [(X0, [.slice (some ⟨g1, 0, none⟩) x0.length x0.length, .slice (some ⟨g2, 0, none⟩) y0.length y0.length]), (w.heap.size, [.slice a0 x0.length c0, .slice b0 y0.length d0])] → (W.cell? ⟨X0, 0, none⟩ = some (.slice (some ⟨g1, 0, none⟩) x0.length x0.length) ∧ W.cell? ⟨X0, 1, none⟩ = some (.slice (some ⟨g2, 0, none⟩) y0.length y0.length) ∧ W.cell? ⟨w.heap.size, 0, none⟩ = some (.slice a0 x0.length c0) ∧ W.cell? ⟨w.heap.size, 1, none⟩ = some (.slice b0 y0.length d0)) := fun w0 W h => ⟨(h.box 0).c 0, (h.box 0).c 1, (h.box 1).c 0, (h.box 1).c 1⟩
    clear hb6 k0 k1 j0 j1 hsz
    have HQ0 : Held w6 w6 [(G0, [.slice A5 P.length c5, .slice B5 F.length d5]), (X0, [.slice (some ⟨g1, 0, none⟩) x0.length x0.length, .slice (some ⟨g2, 0, none⟩) y0.length y0.length]), (W0, [.slice A3 P.length c3, .slice B3 F.length d3]), (w.heap.size, [.slice a0 x0.length c0, .slice b0 y0.length d0])] := ⟨Below.refl _ _, HT.2⟩
    have HQ := HQ0.pick (cs := [(X0, [.slice (some ⟨g1, 0, none⟩) x0.length x0.length, .slice (some ⟨g2, 0, none⟩) y0.length y0.length]), (w.heap.size, [.slice a0 x0.length c0, .slice b0 y0.length d0])]) (by simp)
    have HI6 : ∀ {bs : List (Nat × List Value)} (W : World), Held w6 W bs → MeshIn W a0 b0 x0 y0 := fun W h => ⟨((HI _ HT).1.below h.below).more h.size, ((HI _ HT).2.below h.below).more h.size⟩
    clear HQ0
    go_upto_region 10 with fail
    go_cut [49] (fun z wx => z = .bool false ∧ Below w6.heap.size w6 wx)
    case first =>
      clear HT HMO RM HO
      go_region_held3 (fun W => (W.cell? ⟨X0, 0, none⟩ = some (.slice (some ⟨g1, 0, none⟩) x0.length x0.length) ∧ W.cell? ⟨X0, 1, none⟩ = some (.slice (some ⟨g2, 0, none⟩) y0.length y0.length) ∧ W.cell? ⟨w.heap.size, 0, none⟩ = some (.slice a0 x0.length c0) ∧ W.cell? ⟨w.heap.size, 1, none⟩ = some (.slice b0 y0.length d0)))
       (first | (with_reducible exact HC _ _ HQ) | (with_reducible exact HC _ _ HQ.drew))
       (first | (go_at_call 7; refine (toMesh_rd a0 b0 c0 d0 x0 y0 _ (by first | with_reducible exact HI6 _ HQ | with_reducible exact HI6 _ HQ.drew) HF.out).mono ?_; rintro e w1 ⟨A6, B6, rfl, hb1, hm6⟩; (first | (have HX := HX.later hb1) | (have HX := HX.drew.later hb1)); (first | (have HQ := HQ.later hb1) | (have HQ := HQ.drew.later hb1))) | (go_at_call 9; refine (eqMesh_same _ _ _ _ _ _ _ _ x0 y0 _ (by first | with_reducible exact HX | with_reducible exact HX.drew) (by first | with_reducible exact hm6 | with_reducible exact hm6.drew) HF.out).mono ?_; rintro e w1 ⟨rfl, hb1⟩; (first | (have HQ := HQ.later hb1) | (have HQ := HQ.drew.later hb1))))
      all_goals (go_wp2_with fail; go_meet)
      all_goals (first | with_reducible exact ⟨rfl, HQ.below⟩ | with_reducible exact ⟨rfl, HQ.drew.below⟩)
    case rest =>
      clear HQ HC HX
      obtain ⟨rfl, hb7⟩ := hcut
      have HT := HT.later hb7
      have HMO := HMO.out.later hb7
      have RM := Lib.hid (RM.out.below (hb7.mono (by omega)))
      have HO := Lib.hid (HO.out.later hb7)
      have hs7 := Nat.le_trans hs6 hb7.size
      clear hb7 hs6 HI6
      have c0' := (HT.box 1).c 0
      have c1' := (HT.box 1).c 1
      have hkk := markMesh_any (W0 + 1) X0 g1 g2 x0.length y0.length x0 ps _ HMO HU.out (by rw [HSN.out]; exact HF.out)
      rw [show ps.length = y0.length by rw [← HSN.out]; simp] at hkk
      obtain ⟨kk, hk⟩ : ∃ kk : Nat, kk = 1 + 3 * x0.length + sumL (ps.map Prod.snd) := ⟨_, rfl⟩
      rw [← hk] at hkk
      have hkd : decide ((kk : Int) < 0) = false := by simp
      clear hk
      go_wp2_with fail
      refine hkk.mono ?_
      rintro e w8 ⟨rfl, ht8⟩
      have HT := HT.turn ht8 (fun k h => by omega) (fun p hp h => by simp only [List.mem_cons, List.not_mem_nil, or_false] at hp; rcases hp with rfl | rfl | rfl | rfl <;> simp at h <;> omega)
      have RM := Lib.hid (RM.out.below (ht8.below (by omega) (fun k h => by omega)))
      have HO := Lib.hid (HO.out.turn ht8 (fun k h => by omega))
      have hs8 : G0 + 1 ≤ w8.heap.size := Nat.le_trans hs7 ht8.size
      clear ht8 hkk hs7 c0' c1' HMO HU HSN
      have k0 := (HT.box 2).c 0
      have k1 := (HT.box 2).c 1
      have j0 := (HT.box 0).c 0
      have j1 := (HT.box 0).c 1
      go_wp2_with fail
      refine (eqMesh_same _ _ _ _ _ _ _ _ P F _ (HO.out.read HQS.out) (RM.out.read (by omega)) HFM.out).mono ?_
      rintro e w9 ⟨rfl, hb9⟩
      have HT := HT.later hb9
      have RM := Lib.hid (RM.out.below (hb9.mono (by omega)))
      have HO := Lib.hid (HO.out.later hb9)
      have hs9 : G0 + 1 ≤ w9.heap.size := Nat.le_trans hs8 hb9.size
      clear hb9 hs8 k0 k1 j0 j1
      have j0 := (HT.box 0).c 0
      have j1 := (HT.box 0).c 1
      have hql : qs.length = F.length := by rw [← HQS.out, List.length_map]
      have hmk := markMesh_gen A5 B5 c5 d5 (X0 + 1) G0 P qs _ HO.out HQU.out (by omega) HLB.out.1 (by have := HLB.out.2.1; omega) (by rw [HQS.out]; exact HLB.out.2.2.1)
      have hcc := markL_counted qs (1 + 3 * P.length)
      have hsm := markL_sum qs (1 + 3 * P.length)
      rw [HQS.out] at hsm hmk
      rw [hql] at hmk
      obtain ⟨G, hG⟩ : ∃ G, G = (markL (1 + 3 * P.length) qs).map Prod.snd := ⟨_, rfl⟩
      have hgl : G.length = F.length := by rw [hG, ← List.length_map (f := List.length), markL_snd_len, List.length_map, List.length_map, hql]
      rw [← hG] at hmk hcc hsm
      have HCC := Lib.hid hcc
      have HGL := Lib.hid hgl
      have HSM := Lib.hid hsm
      obtain ⟨mm, hm⟩ : ∃ mm : Nat, mm = 1 + 3 * P.length + sumL F := ⟨_, rfl⟩
      rw [← hm] at hmk
      have HMM := Lib.hid hm
      have hmd : decide ((mm : Int) < 0) = false := by simp
      have HLD : ∀ W, RdM W.heap.size W A5 B5 (mrkV 1 P.length) G → Calls Tryz.prog 11 #[mv A5 B5 P.length c5 F.length d5, .int .i64 1] W fun e w' => e = .returned (.int .i64 (mm : Int)) ∧ Below W.heap.size W w' := fun W h => by
        have h1 := heldMesh_any A5 B5 c5 d5 P.length G W h.1 h.2 HCC.out HLB.out.1 (by rw [HGL.out]; exact HLB.out.2.1) (by rw [HSM.out]; exact HLB.out.2.2.1)
        rw [HSM.out, HGL.out, ← HMM.out] at h1
        exact h1
      clear hG hm hql hcc hgl hsm
      go_wp2_with fail
      refine hmk.mono ?_
      rintro e w10 ⟨rfl, hv10, hr10, ht10⟩
      have HT := HT.turn ht10 (fun k h => by omega) (fun p hp h => by simp only [List.mem_cons, List.not_mem_nil, or_false] at hp; rcases hp with rfl | rfl | rfl | rfl <;> simp at h <;> omega)
      have RM := Lib.hid (RM.out.below (ht10.below (by omega) (fun k h => by omega)))
      have HM : Hid (RdM w10.heap.size w10 A5 B5 (mrkV 1 P.length) G) := Lib.hid ⟨hv10, hr10⟩
      have hs10 : G0 + 1 ≤ w10.heap.size := Nat.le_trans hs9 ht10.size
      clear ht10 hv10 hr10 hmk hs9 HO j0 j1
      have j0 := (HT.box 0).c 0
      have j1 := (HT.box 0).c 1
      go_wp2_with fail
      refine (HLD _ HM.out).mono ?_
      rintro e w11 ⟨rfl, hb11⟩
      have HT := HT.later hb11
      have RM := Lib.hid (RM.out.below (hb11.mono (by omega)))
      have HM := Lib.hid (HM.out.later hb11)
      have hs11 : G0 + 1 ≤ w11.heap.size := Nat.le_trans hs10 hb11.size
      clear hb11 hs10 j0 j1
      have c0' := (HT.box 3).c 0
      have c1' := (HT.box 3).c 1
      go_wp2_with fail
      refine (toMesh_sm a0 b0 c0 d0 x0 y0 _ (HI _ HT) HF.out).mono ?_
      rintro e w12 ⟨A7, B7, rfl, hb12, hm12⟩
      have HT := HT.later hb12
      have RM := Lib.hid (RM.out.below (hb12.mono (by omega)))
      have HM := Lib.hid (HM.out.later hb12)
      have hs12 : G0 + 1 ≤ w12.heap.size := Nat.le_trans hs11 hb12.size
      clear hb12 hs11 c0' c1'
      go_wp2_with fail
      refine (HIV _ _ _ _ _ _ hm12).mono ?_
      rintro e w13 ⟨A8, c8, B8, d8, rs, rfl, hrs, ho13, hb13⟩
      have hb13a : Below w13.heap.size w13 (w13.alloc (.cells #[.slice A8 P.length c8, .slice B8 F.length d8] 29)) := by go_grown
      have hs13 : G0 + 1 ≤ w13.heap.size := Nat.le_trans hs12 hb13.size
      have HT := (HT.later hb13).new #[.slice A8 P.length c8, .slice B8 F.length d8] 29
      have RM := Lib.hid ((RM.out.below (hb13.mono (by omega))).below (hb13a.mono (by omega)))
      have HM := Lib.hid ((HM.out.later hb13).later hb13a)
      have HO := Lib.hid (ho13.later hb13a)
      have HRS := Lib.hid hrs
      obtain ⟨H0, hH0⟩ : ∃ k, k = w13.heap.size := ⟨_, rfl⟩
      rw [← hH0] at HT
      have HH0 := Lib.hid hH0
      have hs14 : G0 + 1 ≤ (w13.alloc (.cells #[.slice A8 P.length c8, .slice B8 F.length d8] 29)).heap.size := by rw [World.size_alloc]; omega
      clear hb13 hb13a hs12 hm12 ho13 hH0 hs13 hrs
      have k0 := (HT.box 3).c 0
      have k1 := (HT.box 3).c 1
      have j0 := (HT.box 0).c 0
      have j1 := (HT.box 0).c 1
      go_wp2_with fail
      rw [← HH0.out]
      refine (eqMesh_same _ _ _ _ _ _ _ _ P F _ (HO.out.read HRS.out) (RM.out.read (by omega)) HFM.out).mono ?_
      rintro e w14 ⟨rfl, hb14⟩
      have HT := HT.later hb14
      have HM := Lib.hid (HM.out.later hb14)
      clear hb14 HO RM k0 k1 j0 j1 hs14
      have j0 := (HT.box 1).c 0
      have j1 := (HT.box 1).c 1
      go_wp2_with fail
      refine (HLD _ HM.out).mono ?_
      rintro e w15 ⟨rfl, hb15⟩
      have HT := HT.later hb15
      clear hb15 HM j0 j1
      go_wp2_with fail
      go_ret
      exact ⟨rfl, HT.below⟩
  · rw [if_neg hfit] at HS0
    clear hfit
    go_enter Tryz.func4, Tryz.ntmps4
    go_wp2_with fail
    refine HS0.mono ?_
    rintro e w1 ⟨rfl, hb1⟩
    have HT := HT0.later hb1
    clear hb1 HT0 HS0
    go_wp2_with fail
    go_ret
    exact ⟨rfl, HT.below⟩

set_option maxRecDepth 100000 in
theorem lifted (os : Os) (started : os.Started) (H : Type) (enc : TypeId × Value → H) :
    ReturnsInHanded {} Tryz.checked os 4 .any (Rows.fnExactSubdivideNSpec.pre6 enc Tryz.prog Tryz.f4 Rows.fnExactSubdivideNRow.domain false) (Rows.fnExactSubdivideNSpec.post enc Tryz.prog Tryz.f4 false true false false) := by
  refine returnsInHanded_of_change (C := Tryz.checked) own started (by kernel_rfl) Tryz.func4
    (ChangeSpec.witness6 (enc := enc) (C := Tryz.checked) false ⟨#[], #[.agg #[.slice none 0 0, .slice none 0 0], .int .i64 0], []⟩ 8 (by kernel_rfl) (by kernel_rfl) (by kernel_rfl) (by kernel_rfl)) ?_
  intro W base args ds gs before hval0 hW hcnd _
  have hval : ∀ (j : Nat) t v, Tryz.f4.params[j]? = some t → args[j]? = some v → Value.okWide Tryz.prog W .any base t v := hval0
  have hW' := hW
  obtain ⟨p, q, hA0, hV, rfl, hfz, hnd⟩ := hW
  have hA : DataW.TrodAll enc Tryz.prog W 0 (fun _ => true) true Tryz.f4.params.toList args.toList ds p := hA0
  rw [Tryz.params4] at hA hval
  obtain ⟨v0, vs0, d0, ds0, p0, q0, hargs, rfl, rfl, h0, r1000⟩ := trodAll_cons hA
  obtain ⟨v1, vs1, d1, ds1, p1, q1, rfl, rfl, rfl, h1, r1001⟩ := trodAll_cons r1000
  obtain ⟨rfl, rfl, rfl⟩ := trodAll_nil r1001
  obtain rfl : args = #[v0, v1] := by cases args; simp_all
  obtain ⟨rfl, rfl⟩ := trodVars_none hV
  have k0 := h0
  have lt0 : ∀ x ∈ p0, x.block < W.heap.size := by obtain ⟨m, hm⟩ := k0; exact DataW.trod_lt m _ _ _ hm
  have hv0 := hval 0 25 v0 rfl rfl
  obtain ⟨s0, t0, n0, X0, Y0, rfl, hs0, ht0⟩ := open_pair (P := Tryz.prog) (t := 25) Tryz.underlying25 (by kernel_rfl) rfl rfl (by kernel_rfl) (by kernel_rfl) hv0 h0
  obtain ⟨a0, c0, x0, rfl, r0, m0⟩ := rowC_of v3 vg vg_v3 Tryz.underlying22 (by kernel_rfl) flat67_ (by omega) hs0
  obtain ⟨b0, d0, y0, rfl, q0_, o0, u0⟩ := rowSS_of Tryz.underlying23 Tryz.underlying45 Tryz.underlying3 (by kernel_rfl) (by kernel_rfl) ht0
  obtain ⟨a1, rfl, rfl, rfl, w1⟩ := open_int Tryz.underlying3 (hval 1 3 v1 rfl rfl) h1
  clear hA0
  refine (walk W a0 b0 c0 d0 x0 y0 ⟨r0, q0_⟩ ⟨m0, o0, u0⟩ a1 w1).mono fun e W' ⟨he, bel⟩ => ?_
  subst he
  exact ⟨_, rfl, _, _, _, [], _, [], hW', trodAll_mk1 (shut_bool Tryz.underlying4 _), (trodAll_cons_mk (Below.trod laidOut (by kernel_rfl) (of_decide_eq_true (by kernel_rfl)) k0 bel lt0) (trodAll_cons_mk (shut_int Tryz.underlying3 w1) trodAll_mk0)), rfl, bel.frame _, fun h => by cases h⟩

theorem proved : Rows.FnExactSubdivideNSaid :=
  OpenClaim.holds_of_wide 4 Tryz.f4 rfl rfl rfl rfl rfl rfl rfl ⟨rfl, rfl, rfl, rfl, rfl⟩ rfl rfl rfl rfl rfl (by kernel_rfl) Tryz.func4 (by kernel_rfl)
    (of_decide_eq_true (by kernel_rfl)) (by unfold Func.isWrapper; first | (rw [if_pos (by decide +kernel)]; kernel_rfl) | (rw [if_neg (by decide +kernel)]; exact ⟨rfl, rfl⟩))
    (fun os started H enc _ => lifted os started H enc)
#print axioms proved
end Go.Proofs.YtdefhepagpgnaaaGreat.fnExactSubdivideN
