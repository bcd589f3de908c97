/-
  Proved: the law FnExactRoots returns true for every input and its arguments read behind the call as they read before. Conditions: none of our own; those of the given row alone.
-/
import Derived.Test.YtkbdnjhgcoihhaaRows
import Derived.WalkKit
import Derived.ProofKit
import Derived.OpenShut
import Derived.ShutString
import Derived.SliceStrings
import Derived.ChangeOld
import Derived.Below
import Derived.Test.YtkbdnjhgcoihhaaMem
import Derived.Test.YtkbdnjhgcoihhaaInts
import Derived.Test.YtkbdnjhgcoihhaaFlat
import Derived.Test.YtkbdnjhgcoihhaaVbox
import Derived.Test.YtkbdnjhgcoihhaaHeld
import Derived.Test.YtkbdnjhgcoihhaaRowC
import Derived.Test.YtkbdnjhgcoihhaaKS
import Derived.Test.YtkbdnjhgcoihhaaStrS
import Derived.Test.YtkbdnjhgcoihhaaIntS
import Derived.Test.YtkbdnjhgcoihhaaSS
import Derived.Test.YtkbdnjhgcoihhaaPg
import Derived.Test.YtkbdnjhgcoihhaaPh
import Derived.Test.YtkbdnjhgcoihhaaPi
import Derived.Test.YtkbdnjhgcoihhaaPj
import Derived.Test.YtkbdnjhgcoihhaaPk
import Derived.Test.YtkbdnjhgcoihhaaPl
import Derived.Test.YtkbdnjhgcoihhaaPm
import Derived.Deep.RegionHeld3
import Derived.Deep.DeepCutAuto
import Derived.Handy
namespace Go.Proofs.Ytkbdnjhgcoihhaa.fnExactRoots
open Go.ChangeShapes Go.WideShapes Go.ChangeAt Go.RowKit
open Go.ChangeMaps (open_string shut_string)
set_option linter.unusedVariables false

theorem own : ownKnob Try.prog.godebug = none := by kernel_rfl
theorem laidOut : laidOutB Try.prog = true := by kernel_rfl
theorem flatS64_ : FlatS Try.prog 64 [.str, .int] := flatSS (ks := [[.str], [.int]]) Try.underlying64 (n := 2) (by kernel_rfl) (by exact ⟨[.str], _, rfl, by kernel_rfl, by kernel_rfl, flatS_str Try.underlying9, ⟨[.int], _, rfl, by kernel_rfl, by kernel_rfl, flatS_int Try.underlying3, ⟨rfl, by kernel_rfl⟩⟩⟩)
set_option maxRecDepth 100000 in
set_option maxHeartbeats 8000000 in
theorem walk (w : World) (a0 b0 : Option Addr) (c0 d0 : Nat) (x0 : List Nd) (y0 : List As) (r0 : ProgIn w w.heap.size a0 b0 x0 y0) (m0 : x0.length ≤ maxLen ∧ y0.length ≤ maxLen) (v0 : ∀ z ∈ x0, NdOk z) (u0 : ∀ z ∈ y0, AsOk z) :
    Calls Try.prog 5 #[pgv a0 b0 x0.length c0 y0.length d0] w fun e w' => e = .returned (.bool true) ∧ Below w.heap.size w w' := by
  have HIN := Lib.hid r0
  have HV := Lib.hid v0
  have HU0 := Lib.hid u0
  have HMX := Lib.hid m0
  clear r0 v0 u0 m0
  have HT0 : Held w (w.alloc (.cells #[.slice a0 x0.length c0, .slice b0 y0.length d0] 25)) [(w.heap.size, [.slice a0 x0.length c0, .slice b0 y0.length d0])] := by
    have h := (Held.nil w).new #[.slice a0 x0.length c0, .slice b0 y0.length d0] 25
    simpa only [World.size_alloc] using h
  have HI : ∀ {bs : List (Nat × List Value)} (W : World), Held w W bs → ProgIn W W.heap.size a0 b0 x0 y0 := fun W h => (HIN.out.below h.below).more h.size
  have HS0 := szProg_any a0 b0 c0 d0 1048576 x0 y0 _ (HI _ HT0) HV.out HU0.out (by have := HMX.out.1; unfold maxLen at this; omega) (by have := HMX.out.2; unfold maxLen at this; omega) (by omega)
  go_enter Try.func5, Try.ntmps5
  go_wp2_with fail
  refine HS0.mono ?_
  rintro e w1 ⟨hb1, hc⟩
  have HT := HT0.later hb1
  clear hb1 HT0 HS0
  rcases hc with ⟨hfit, rfl⟩ | ⟨hfit, rfl⟩
  · have hl : x0.length ≤ 1048576 := by omega
    have hl' : y0.length ≤ 1048576 := by omega
    have hz1 : szN x0 ≤ 1048576 := by omega
    have hm : ∀ x ∈ x0, x.2.2.2.length ≤ 1048576 := fun x hx => by
      have := szN_mem hx
      omega
    have HLEN : Hid (x0.length ≤ 1048576 ∧ y0.length ≤ 1048576 ∧ szN x0 ≤ 1048576) := Lib.hid ⟨hl, hl', hz1⟩
    have HL : Hid (x0.length ≤ 1099511627776 ∧ y0.length ≤ 1099511627776 ∧ ∀ x ∈ x0, x.2.2.2.length ≤ 1099511627776) := Lib.hid ⟨by omega, by omega, fun x hx => by have := hm x hx; omega⟩
    obtain ⟨q, hq⟩ : ∃ q : Nat, q = 1048576 - (x0.length + szN x0 + (y0.length + szA y0)) := ⟨_, rfl⟩
    have hq0 : ¬ ((q : Nat) : Int) < 0 := by omega
    have hq1 : ((q : Nat) : Int) ≤ 1048576 := by omega
    rw [← hq]
    clear hq hfit
    obtain ⟨lst, hlst⟩ : ∃ l, l = rtsL y0 := ⟨_, rfl⟩
    have HLB : lst.length ≤ 1048576 := by rw [hlst]; rw [rts_len]; exact hl'
    have HSV : ∀ W A B c d, ProgIn W W.heap.size A B x0 y0 → Calls Try.prog 14 #[pgv A B x0.length c y0.length d] W (IntsOutP lst W) := fun W A B c d h => by rw [hlst]; exact sRoots_any A B c d x0 y0 W h (by omega)
    have HIV : ∀ W A B c d, ProgIn W W.heap.size A B x0 y0 → Calls Try.prog 15 #[pgv A B x0.length c y0.length d] W (IntsOutP lst W) := fun W A B c d h => by rw [hlst]; exact roots_any A B c d x0 y0 W h (by omega)
    clear hlst hl hl' hz1 hm
    have c0' := (HT.box 0).c 0
    have c1' := (HT.box 0).c 1
    go_wp2_with fail
    refine (toProg_rd a0 b0 c0 d0 x0 y0 _ (HI _ HT) HL.out.1 HL.out.2.1 HL.out.2.2).mono ?_
    rintro e w2 ⟨g0, g0', rfl, hb2, hm2⟩
    have HT := HT.later hb2
    clear hb2 c0' c1'
    go_wp2_with fail
    refine (HSV _ _ _ _ _ hm2).mono ?_
    rintro e w3 ⟨A3, c3, rfl, ho3, hb3⟩
    have HT := HT.later hb3
    have R0 : Row I64 w3 w3.heap.size A3 lst := Row.of_own ho3
    clear hb3 hm2 ho3
    have c0' := (HT.box 0).c 0
    have c1' := (HT.box 0).c 1
    go_wp2_with fail
    refine (toProg_own a0 b0 c0 d0 x0 y0 _ (HI _ HT) HL.out.1 HL.out.2.1 HL.out.2.2).mono ?_
    rintro e w4 ⟨hb4, g1, g2, ps, hsnd, rfl, hm4⟩
    have hpm : ∀ p ∈ ps, p.2.2.2.2.length ≤ maxLen := fun p hp => by
      have h := HL.out.2.2 p.2 (by rw [← hsnd]; exact List.mem_map.2 ⟨p, hp, rfl⟩)
      unfold maxLen
      omega
    have HX := hm4.read hpm
    rw [hsnd] at HX
    have HU : Hid (g2 < w4.heap.size ∧ ∀ p ∈ ps, p.1 < w4.heap.size) := Lib.hid ⟨(hm4.2.1.lt g2 rfl).2, fun p hp => (hm4.1.2.2.1.2 (argL p) (List.mem_map.2 ⟨p, hp, rfl⟩)).2⟩
    have HSN := Lib.hid hsnd
    have hlo : w.heap.size < w3.heap.size := (HT.box 0).lt
    have hlh : w3.heap.size ≤ w4.heap.size := hb4.size
    have R0 := R0.below hb4
    have HT := (HT.later hb4).new #[.slice (some ⟨g1, 0, none⟩) x0.length x0.length, .slice (some ⟨g2, 0, none⟩) y0.length y0.length] 31
    have HMO := Lib.hid (hm4.later (show Below w4.heap.size w4 (w4.alloc (.cells #[.slice (some ⟨g1, 0, none⟩) x0.length x0.length, .slice (some ⟨g2, 0, none⟩) y0.length y0.length] 31)) by go_grown))
    have HX := (HX.alloc (Nat.le_refl _) (.cells #[.slice (some ⟨g1, 0, none⟩) x0.length x0.length, .slice (some ⟨g2, 0, none⟩) y0.length y0.length] 31)).more (B' := (w4.alloc (.cells #[.slice (some ⟨g1, 0, none⟩) x0.length x0.length, .slice (some ⟨g2, 0, none⟩) y0.length y0.length] 31)).heap.size) (by simp)
    have R0 := R0.alloc hlh (.cells #[.slice (some ⟨g1, 0, none⟩) x0.length x0.length, .slice (some ⟨g2, 0, none⟩) y0.length y0.length] 31)
    clear hb4 hm4 c0' c1' hsnd hpm
    have c0' := (HT.box 0).c 0
    have c1' := (HT.box 0).c 1
    go_wp2_with fail
    refine (HIV _ _ _ _ _ HX).mono ?_
    rintro e w5 ⟨A5, c5, rfl, ho5, hb5⟩
    rw [World.size_alloc] at ho5
    have HT := HT.later hb5
    have HX := HX.later hb5
    have HMO := Lib.hid (HMO.out.later hb5)
    have R0 := R0.below (hb5.mono (by simp; omega))
    have hs5 : w4.heap.size + 1 ≤ w5.heap.size := by have := hb5.size; simpa using this
    obtain ⟨X0, hX0⟩ : ∃ k, k = w4.heap.size := ⟨_, rfl⟩
    obtain ⟨lo, hLO⟩ : ∃ k, k = w3.heap.size := ⟨_, rfl⟩
    rw [← hX0] at HT HU hlh hs5 ho5 ⊢
    rw [← hLO] at HMO R0 hlo hlh
    clear hb5 c0' c1' hX0 hLO
    go_wp2_with fail
    refine (eqIntS_same _ _ _ _ lst _ (Row.of_own ho5) (R0.more (by omega)) (by omega)).mono ?_
    rintro e w6 ⟨rfl, hb6⟩
    have HT := HT.later hb6
    have HX := HX.later hb6
    have HMO := Lib.hid (HMO.out.later hb6)
    have HR := Lib.hid (R0.below (hb6.mono (by omega)))
    have HO := Lib.hid (own_keep' ho5 hb6)
    have hs6 : X0 + 1 ≤ w6.heap.size := Nat.le_trans hs5 hb6.size
    have HC : ∀ w0 W : World, Held w0 W [(X0, [.slice (some ⟨g1, 0, none⟩) x0.length x0.length, .slice (some ⟨g2, 0, none⟩) y0.length y0.length]), (w.heap.size, [.slice a0 x0.length c0, .slice b0 y0.length d0])] → (W.cell? ⟨X0, 0, none⟩ = some (.slice (some ⟨g1, 0, none⟩) x0.length x0.length) ∧ W.cell? ⟨X0, 1, none⟩ = some (.slice (some ⟨g2, 0, none⟩) y0.length y0.length) ∧ W.cell? ⟨w.heap.size, 0, none⟩ = some (.slice a0 x0.length c0) ∧ W.cell? ⟨w.heap.size, 1, none⟩ = some (.slice b0 y0.length d0)) := fun w0 W h => ⟨(h.box 0).c 0, (h.box 0).c 1, (h.box 1).c 0, (h.box 1).c 1⟩
    clear hb6 ho5 R0 hs5
    have HQ : Held w6 w6 [(X0, [.slice (some ⟨g1, 0, none⟩) x0.length x0.length, .slice (some ⟨g2, 0, none⟩) y0.length y0.length]), (w.heap.size, [.slice a0 x0.length c0, .slice b0 y0.length d0])] := ⟨Below.refl _ _, HT.2⟩
    have HI6 : ∀ {bs : List (Nat × List Value)} (W : World), Held w6 W bs → ProgIn W W.heap.size a0 b0 x0 y0 := fun W h => ((HI _ HT).below h.below).more h.size
    go_upto_region 10 with fail
    go_cut [31] (fun z wx => z = .bool false ∧ Below w6.heap.size w6 wx)
    case first =>
      clear HT HMO HR HO
      go_region_held3 (fun w' => w'.cell? ⟨X0, 0, none⟩ = some (.slice (some ⟨g1, 0, none⟩) x0.length x0.length) ∧ w'.cell? ⟨X0, 1, none⟩ = some (.slice (some ⟨g2, 0, none⟩) y0.length y0.length) ∧ w'.cell? ⟨w.heap.size, 0, none⟩ = some (.slice a0 x0.length c0) ∧ w'.cell? ⟨w.heap.size, 1, none⟩ = some (.slice b0 y0.length d0))
       (first | (with_reducible exact HC _ _ HQ) | (with_reducible exact HC _ _ HQ.drew))
       (first | (go_at_call 9; refine (toProg_rd a0 b0 c0 d0 x0 y0 _ (by first | with_reducible exact HI6 _ HQ | with_reducible exact HI6 _ HQ.drew) HL.out.1 HL.out.2.1 HL.out.2.2).mono ?_; rintro e w1 ⟨g6, g6', rfl, hb1, hm6⟩; (first | (have HX := HX.later hb1) | (have HX := HX.drew.later hb1)); (first | (have HQ := HQ.later hb1) | (have HQ := HQ.drew.later hb1))) | (go_at_call 11; refine (eqProg_same _ _ _ _ _ _ _ _ x0 y0 _ (by first | with_reducible exact HX | with_reducible exact HX.drew) (by first | with_reducible exact hm6 | with_reducible exact hm6.drew) HL.out.1 HL.out.2.1 HL.out.2.2).mono ?_; rintro e w1 ⟨rfl, hb1⟩; (first | (have HQ := HQ.later hb1) | (have HQ := HQ.drew.later hb1))))
      all_goals (go_wp2_with fail; go_meet)
      all_goals (first | with_reducible exact ⟨rfl, HQ.below⟩ | with_reducible exact ⟨rfl, HQ.drew.below⟩)
    case rest =>
      clear HQ HC HX
      obtain ⟨rfl, hb7⟩ := hcut
      have HT := HT.later hb7
      have HMO := HMO.out.later hb7
      have HR := Lib.hid (HR.out.below (hb7.mono (by omega)))
      have HO := Lib.hid (own_keep' HO.out hb7)
      have hs7 := Nat.le_trans hs6 hb7.size
      clear hb7 hs6
      have c0' := (HT.box 0).c 0
      have c1' := (HT.box 0).c 1
      have hpl : ps.length = x0.length := by rw [← HSN.out]; simp
      have hkk := markProg_own lo X0 g1 g2 1 ps y0 _ HMO HU.out (by omega) (by rw [HSN.out]; have := HLEN.out; omega) (by have := HLEN.out; omega)
      rw [hpl] at hkk
      clear hpl
      go_wp2_with fail
      refine hkk.mono ?_
      rintro e w8 ⟨kk, hk1, hk2, rfl, ht8⟩
      have hkd : ¬ ((kk : Nat) : Int) < 0 := by omega
      have hkd2 : decide (((kk : Nat) : Int) < 0) = false := by simp
      have HT := HT.turn' ht8 (fun k h => by omega) (fun p hp h => by simp only [List.mem_cons, List.not_mem_nil, or_false] at hp; rcases hp with rfl | rfl <;> simp at h <;> omega)
      have HR := Lib.hid (HR.out.keep fun p hp => World.cell?_of_block (ht8.block (by omega) (by omega)))
      have HO := Lib.hid (own_turn' HO.out ht8 (fun k h => by omega))
      have hs8 : X0 + 1 ≤ w8.heap.size := Nat.le_trans hs7 ht8.size
      clear ht8 hkk hs7 c0' c1' HMO HU HSN
      go_wp2_with fail
      refine (eqIntS_same _ _ _ _ lst _ (Row.of_own HO.out) (HR.out.more (by omega)) (by omega)).mono ?_
      rintro e w9 ⟨rfl, hb9⟩
      have HT := HT.later hb9
      have HR := Lib.hid (HR.out.below (hb9.mono (by omega)))
      have HO := Lib.hid (own_keep' HO.out hb9)
      have hs9 : X0 + 1 ≤ w9.heap.size := Nat.le_trans hs8 hb9.size
      clear hb9 hs8
      go_wp2_with fail
      refine (markIntOP _ _ (X0 + 1) 1 lst _ HO.out (by omega)).mono ?_
      rintro e w10 ⟨rfl, ho10, hb10⟩
      have HT := HT.under' hb10 (by omega) (fun p hp => by simp only [List.mem_cons, List.not_mem_nil, or_false] at hp; rcases hp with rfl | rfl <;> simp <;> omega)
      have HR := Lib.hid (HR.out.below (hb10.mono (by omega)))
      have HM : Hid (Row I64 w10 w10.heap.size A5 (cntQ 1 lst.length)) := Lib.hid (Row.of_own ho10)
      have hs10 : X0 + 1 ≤ w10.heap.size := Nat.le_trans hs9 hb10.size
      clear hb10 ho10 hs9 HO
      go_wp2_with fail
      refine (heldIntMP _ _ 1 lst.length _ HM.out (by omega)).mono ?_
      rintro e w11 ⟨rfl, hb11⟩
      have HT := HT.later hb11
      have HR := Lib.hid (HR.out.below (hb11.mono (by omega)))
      have HM := Lib.hid (HM.out.later hb11)
      have hs11 : X0 + 1 ≤ w11.heap.size := Nat.le_trans hs10 hb11.size
      clear hb11 hs10
      have c0' := (HT.box 1).c 0
      have c1' := (HT.box 1).c 1
      go_wp2_with fail
      refine (toProg_rd a0 b0 c0 d0 x0 y0 _ (HI _ HT) HL.out.1 HL.out.2.1 HL.out.2.2).mono ?_
      rintro e w12 ⟨g7, g7', rfl, hb12, hm12⟩
      have HT := HT.later hb12
      have HR := Lib.hid (HR.out.below (hb12.mono (by omega)))
      have HM := Lib.hid (HM.out.later hb12)
      have hs12 : X0 + 1 ≤ w12.heap.size := Nat.le_trans hs11 hb12.size
      clear hb12 hs11 c0' c1'
      go_wp2_with fail
      refine (HIV _ _ _ _ _ hm12).mono ?_
      rintro e w13 ⟨A8, c8, rfl, ho13, hb13⟩
      have HT := HT.later hb13
      have HR := Lib.hid (HR.out.below (hb13.mono (by omega)))
      have HM := Lib.hid (HM.out.later hb13)
      have HO := Lib.hid ho13
      have hs13 : X0 + 1 ≤ w13.heap.size := Nat.le_trans hs12 hb13.size
      clear hb13 hs12 hm12 ho13
      go_wp2_with fail
      refine (eqIntS_same _ _ _ _ lst _ (Row.of_own HO.out) (HR.out.more (by omega)) (by omega)).mono ?_
      rintro e w14 ⟨rfl, hb14⟩
      have HT := HT.later hb14
      have HM := Lib.hid (HM.out.later hb14)
      clear hb14 HO HR
      go_wp2_with fail
      refine (heldIntMP _ _ 1 lst.length _ HM.out (by omega)).mono ?_
      rintro e w15 ⟨rfl, hb15⟩
      have HT := HT.later hb15
      clear hb15 HM
      go_wp2_with fail
      go_ret
      exact ⟨rfl, HT.below⟩
  · clear hfit
    go_wp2_with fail
    go_ret
    exact ⟨rfl, HT.below⟩

set_option maxRecDepth 100000 in
theorem lifted (os : Os) (started : os.Started) (H : Type) (enc : TypeId × Value → H) :
    ReturnsInHanded {} Try.checked os 5 .any (Rows.fnExactRootsSpec.pre6 enc Try.prog Try.f5 Rows.fnExactRootsRow.domain false) (Rows.fnExactRootsSpec.post enc Try.prog Try.f5 false true false false) := by
  refine returnsInHanded_of_change (C := Try.checked) own started (by kernel_rfl) Try.func5
    (ChangeSpec.witness6 (enc := enc) (C := Try.checked) false ⟨#[], #[.agg #[.slice none 0 0, .slice none 0 0]], []⟩ 8 (by kernel_rfl) (by kernel_rfl) (by kernel_rfl) (by kernel_rfl)) ?_
  intro W base args ds gs before hval0 hW hcnd _
  have hval : ∀ (j : Nat) t v, Try.f5.params[j]? = some t → args[j]? = some v → Value.okWide Try.prog W .any base t v := hval0
  have hW' := hW
  obtain ⟨p, q, hA0, hV, rfl, hfz, hnd⟩ := hW
  have hA : DataW.TrodAll enc Try.prog W 0 (fun _ => true) true Try.f5.params.toList args.toList ds p := hA0
  rw [Try.params5] at hA hval
  obtain ⟨v0, vs0, d0, ds0, p0, q0, hargs, rfl, rfl, h0, r1000⟩ := trodAll_cons hA
  obtain ⟨rfl, rfl, rfl⟩ := trodAll_nil r1000
  obtain rfl : args = #[v0] := by cases args; simp_all
  obtain ⟨rfl, rfl⟩ := trodVars_none hV
  have k0 := h0
  have lt0 : ∀ x ∈ p0, x.block < W.heap.size := by obtain ⟨m, hm⟩ := k0; exact DataW.trod_lt m _ _ _ hm
  have hv0 := hval 0 25 v0 rfl rfl
  obtain ⟨s0, t0, n0, X0, Y0, rfl, hs0, ht0⟩ := open_pairP (P := Try.prog) (t := 25) Try.underlying25 (by kernel_rfl) rfl rfl (by kernel_rfl) (by kernel_rfl) hv0 h0
  obtain ⟨a0, c0, x0, rfl, r0, m0, v0_⟩ := nodes_of Try.underlying22 (by kernel_rfl) (fun _ _ _ _ _ _ _ _ _ hx => node_of Try.underlying62 (by kernel_rfl) rfl rfl rfl rfl (by kernel_rfl) (by kernel_rfl) (by kernel_rfl) (by kernel_rfl) Try.underlying3 Try.underlying9 Try.underlying3 Try.underlying36 Try.underlying3 (by kernel_rfl) hx) hs0
  obtain ⟨b0, d0, y0, rfl, q0_, o0, u0_⟩ := kinds_of as2 asg asg_as2 Try.underlying23 (by kernel_rfl) flatS64_ (by decide) ht0
  clear hA0
  refine (walk W a0 b0 c0 d0 x0 y0 ⟨r0, q0_⟩ ⟨m0, o0⟩ v0_ (fun z hz => asOk_of (u0_ z hz))).mono fun e W' ⟨he, bel⟩ => ?_
  subst he
  exact ⟨_, rfl, _, _, _, [], _, [], hW', trodAll_mk1 (shut_bool Try.underlying4 _), (trodAll_cons_mk (Below.trod laidOut (by kernel_rfl) (of_decide_eq_true (by kernel_rfl)) k0 bel lt0) trodAll_mk0), rfl, bel.frame _, fun h => by cases h⟩

theorem proved : Rows.FnExactRootsSaid :=
  OpenClaim.holds_of_wide 5 Try.f5 rfl rfl rfl rfl rfl rfl rfl ⟨rfl, rfl, rfl, rfl, rfl⟩ rfl rfl rfl rfl rfl (by kernel_rfl) Try.func5 (by kernel_rfl)
    (of_decide_eq_true (by kernel_rfl)) (by unfold Func.isWrapper; first | (rw [if_pos (by decide +kernel)]; kernel_rfl) | (rw [if_neg (by decide +kernel)]; exact ⟨rfl, rfl⟩))
    (fun os started H enc _ => lifted os started H enc)
#print axioms proved
end Go.Proofs.Ytkbdnjhgcoihhaa.fnExactRoots
