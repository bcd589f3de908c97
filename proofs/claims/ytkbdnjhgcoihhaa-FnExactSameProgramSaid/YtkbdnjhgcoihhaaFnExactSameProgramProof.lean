/-
  Proved: the law FnExactSameProgram returns true for every input and its arguments read behind the call as they read before. Conditions: none of our own; those of the given row alone.
-/
import Derived.Test.YtkbdnjhgcoihhaaRows
import Derived.WalkKit
import Derived.ProofKit
import Derived.OpenShut
import Derived.ShutString
import Derived.SliceStrings
import Derived.ChangeOld
import Derived.Below
import Derived.Test.YtkbdnjhgcoihhaaMem
import Derived.Test.YtkbdnjhgcoihhaaInts
import Derived.Test.YtkbdnjhgcoihhaaFlat
import Derived.Test.YtkbdnjhgcoihhaaVbox
import Derived.Test.YtkbdnjhgcoihhaaHeld
import Derived.Test.YtkbdnjhgcoihhaaRowC
import Derived.Test.YtkbdnjhgcoihhaaKS
import Derived.Test.YtkbdnjhgcoihhaaStrS
import Derived.Test.YtkbdnjhgcoihhaaIntS
import Derived.Test.YtkbdnjhgcoihhaaSS
import Derived.Test.YtkbdnjhgcoihhaaPg
import Derived.Test.YtkbdnjhgcoihhaaPh
import Derived.Test.YtkbdnjhgcoihhaaPi
import Derived.Test.YtkbdnjhgcoihhaaPj
import Derived.Test.YtkbdnjhgcoihhaaIdent
import Derived.Test.YtkbdnjhgcoihhaaPn
import Derived.Test.YtkbdnjhgcoihhaaQa
import Derived.Test.YtkbdnjhgcoihhaaQe
import Derived.Test.YtkbdnjhgcoihhaaQf
import Derived.Test.YtkbdnjhgcoihhaaQg
import Derived.Deep.RegionHeld3
import Derived.Deep.DeepCutAuto
import Derived.Handy
namespace Go.Proofs.Ytkbdnjhgcoihhaa.fnExactSameProgram
open Go.ChangeShapes Go.WideShapes Go.ChangeAt Go.RowKit
open Go.ChangeMaps (open_string shut_string)
set_option linter.unusedVariables false

theorem own : ownKnob Try.prog.godebug = none := by kernel_rfl
theorem laidOut : laidOutB Try.prog = true := by kernel_rfl
theorem flatS64_ : FlatS Try.prog 64 [.str, .int] := flatSS (ks := [[.str], [.int]]) Try.underlying64 (n := 2) (by kernel_rfl) (by exact ⟨[.str], _, rfl, by kernel_rfl, by kernel_rfl, flatS_str Try.underlying9, ⟨[.int], _, rfl, by kernel_rfl, by kernel_rfl, flatS_int Try.underlying3, ⟨rfl, by kernel_rfl⟩⟩⟩)
set_option maxRecDepth 100000 in
set_option maxHeartbeats 8000000 in
theorem walk (w : World) (a0 b0 : Option Addr) (c0 d0 : Nat) (x0 : List Nd) (y0 : List As) (r0 : ProgIn w w.heap.size a0 b0 x0 y0) (m0 : x0.length ≤ maxLen ∧ y0.length ≤ maxLen) (v0 : ∀ z ∈ x0, NdOk z) (u0 : ∀ z ∈ y0, AsOk z) (a1 b1 : Option Addr) (c1 d1 : Nat) (x1 : List Nd) (y1 : List As) (r1 : ProgIn w w.heap.size a1 b1 x1 y1) (m1 : x1.length ≤ maxLen ∧ y1.length ≤ maxLen) (v1 : ∀ z ∈ x1, NdOk z) (u1 : ∀ z ∈ y1, AsOk z) :
    Calls Try.prog 4 #[pgv a0 b0 x0.length c0 y0.length d0, pgv a1 b1 x1.length c1 y1.length d1] w fun e w' => e = .returned (.bool true) ∧ Below w.heap.size w w' := by
  have HIN0 := Lib.hid r0
  have HIN1 := Lib.hid r1
  have HV0 := Lib.hid v0
  have HV1 := Lib.hid v1
  have HU0 := Lib.hid u0
  have HU1 := Lib.hid u1
  have HMX0 := Lib.hid m0
  have HMX1 := Lib.hid m1
  clear r0 v0 u0 m0 r1 v1 u1 m1
  have HT0 : Held w ((w.alloc (.cells #[.slice a0 x0.length c0, .slice b0 y0.length d0] 25)).alloc (.cells #[.slice a1 x1.length c1, .slice b1 y1.length d1] 25)) [(w.heap.size + 1, [.slice a1 x1.length c1, .slice b1 y1.length d1]), (w.heap.size, [.slice a0 x0.length c0, .slice b0 y0.length d0])] := by
    have h := ((Held.nil w).new #[.slice a0 x0.length c0, .slice b0 y0.length d0] 25).new #[.slice a1 x1.length c1, .slice b1 y1.length d1] 25
    simpa only [World.size_alloc] using h
  have HI0 : ∀ {bs : List (Nat × List Value)} (W : World), Held w W bs → ProgIn W W.heap.size a0 b0 x0 y0 := fun W h => (HIN0.out.below h.below).more h.size
  have HI1 : ∀ {bs : List (Nat × List Value)} (W : World), Held w W bs → ProgIn W W.heap.size a1 b1 x1 y1 := fun W h => (HIN1.out.below h.below).more h.size
  have HS0 := szProg_any a0 b0 c0 d0 1048576 x0 y0 _ (HI0 _ HT0) HV0.out HU0.out (by have := HMX0.out.1; unfold maxLen at this; omega) (by have := HMX0.out.2; unfold maxLen at this; omega) (by omega)
  go_enter Try.func4, Try.ntmps4
  go_wp2_with fail
  refine HS0.mono ?_
  rintro e w1 ⟨hb1, hc⟩
  have HT := HT0.later hb1
  clear hb1 HT0 HS0
  rcases hc with ⟨hfit, rfl⟩ | ⟨hfit, rfl⟩
  · have hl : x0.length ≤ 1048576 := by omega
    have hl' : y0.length ≤ 1048576 := by omega
    have hz : szN x0 ≤ 1048576 ∧ szA y0 ≤ 1048576 := by omega
    have HL0 : Hid (x0.length ≤ 1099511627776 ∧ y0.length ≤ 1099511627776 ∧ ∀ x ∈ x0, x.2.2.2.length ≤ 1099511627776) := Lib.hid ⟨by omega, by omega, fun x hx => by have := szN_mem hx; omega⟩
    obtain ⟨q, hq⟩ : ∃ q : Nat, q = 1048576 - (x0.length + szN x0 + (y0.length + szA y0)) := ⟨_, rfl⟩
    have hq0 : ¬ ((q : Nat) : Int) < 0 := by omega
    have hq1 : ((q : Nat) : Int) ≤ 1048576 := by omega
    have hq2 : q ≤ 1048576 := by omega
    rw [← hq]
    clear hq hfit
    have HS1 := szProg_any a1 b1 c1 d1 q x1 y1 _ (HI1 _ HT) HV1.out HU1.out (by have := HMX1.out.1; unfold maxLen at this; omega) (by have := HMX1.out.2; unfold maxLen at this; omega) (by omega)
    have e0' := (HT.box 0).c 0
    have e1' := (HT.box 0).c 1
    go_wp2_with fail
    refine HS1.mono ?_
    rintro e w2 ⟨hb2, hc⟩
    have HT := HT.later hb2
    clear hb2 HS1 e0' e1'
    rcases hc with ⟨hfit, rfl⟩ | ⟨hfit, rfl⟩
    · have gl : x1.length ≤ 1048576 := by omega
      have gl' : y1.length ≤ 1048576 := by omega
      have gz : szN x1 ≤ 1048576 ∧ szA y1 ≤ 1048576 := by omega
      have HL1 : Hid (x1.length ≤ 1099511627776 ∧ y1.length ≤ 1099511627776 ∧ ∀ x ∈ x1, x.2.2.2.length ≤ 1099511627776) := Lib.hid ⟨by omega, by omega, fun x hx => by have := szN_mem hx; omega⟩
      obtain ⟨p, hp⟩ : ∃ p : Nat, p = q - (x1.length + szN x1 + (y1.length + szA y1)) := ⟨_, rfl⟩
      have hp0 : ¬ ((p : Nat) : Int) < 0 := by omega
      have hp1 : ((p : Nat) : Int) ≤ 1048576 := by omega
      rw [← hp]
      clear hp hfit hq0 hq1 hq2
      obtain ⟨ans, hans⟩ : ∃ ans : Bool, ans = @decide (x0 = x1 ∧ y0 = y1) (Classical.propDecidable _) := ⟨_, rfl⟩
      have HSV : ∀ W A B A1 B1 c d c1 d1, ProgIn W W.heap.size A B x0 y0 → ProgIn W W.heap.size A1 B1 x1 y1 → Calls Try.prog 12 #[pgv A B x0.length c y0.length d, pgv A1 B1 x1.length c1 y1.length d1] W fun e w' => e = .returned (.bool ans) ∧ Below W.heap.size W w' := fun W A B A1 B1 c d c1 d1 h h1 => by rw [hans]; exact (sSameProg_any A B A1 B1 c d c1 d1 x0 x1 y0 y1 W h h1 (by omega) (by omega) (fun x hx => by have := szN_mem hx; omega)).mono fun _ _ => boolOut_val
      have HIV : ∀ W A B A1 B1 c d c1 d1, ProgIn W W.heap.size A B x0 y0 → ProgIn W W.heap.size A1 B1 x1 y1 → Calls Try.prog 13 #[pgv A B x0.length c y0.length d, pgv A1 B1 x1.length c1 y1.length d1] W fun e w' => e = .returned (.bool ans) ∧ Below W.heap.size W w' := fun W A B A1 B1 c d c1 d1 h h1 => by rw [hans]; exact (sameProg_any A B A1 B1 c d c1 d1 x0 x1 y0 y1 W h h1 (by omega) (by omega) (fun x hx => by have := szN_mem hx; omega)).mono fun _ _ => boolOut_val
      clear hans hl hl' hz gl gl' gz
      have HC : ∀ W, Held w W [(w.heap.size + 1, [.slice a1 x1.length c1, .slice b1 y1.length d1]), (w.heap.size, [.slice a0 x0.length c0, .slice b0 y0.length d0])] → (W.cell? ⟨w.heap.size + 1, 0, none⟩ = some (.slice a1 x1.length c1) ∧ W.cell? ⟨w.heap.size + 1, 1, none⟩ = some (.slice b1 y1.length d1) ∧ W.cell? ⟨w.heap.size, 0, none⟩ = some (.slice a0 x0.length c0) ∧ W.cell? ⟨w.heap.size, 1, none⟩ = some (.slice b0 y0.length d0)) := fun W h => ⟨(h.box 0).c 0, (h.box 0).c 1, (h.box 1).c 0, (h.box 1).c 1⟩
      go_upto_region 8 with fail
      go_cut [6] (fun s wx => s = .bool ans ∧ Held w wx [(w.heap.size + 1, [.slice a1 x1.length c1, .slice b1 y1.length d1]), (w.heap.size, [.slice a0 x0.length c0, .slice b0 y0.length d0])])
      case first =>
        go_region_held3 (fun W => W.cell? ⟨w.heap.size + 1, 0, none⟩ = some (.slice a1 x1.length c1) ∧ W.cell? ⟨w.heap.size + 1, 1, none⟩ = some (.slice b1 y1.length d1) ∧ W.cell? ⟨w.heap.size, 0, none⟩ = some (.slice a0 x0.length c0) ∧ W.cell? ⟨w.heap.size, 1, none⟩ = some (.slice b0 y0.length d0))
          (first | (with_reducible exact HC _ HT) | (with_reducible exact HC _ HT.drew))
          (first | (go_at_call 12; (with_reducible refine (HSV _ _ _ _ _ _ _ _ _ (by (first | with_reducible exact hm0 | with_reducible exact hm0.drew)) (by (first | with_reducible exact hm1 | with_reducible exact hm1.drew))).mono ?_); rintro e w1 ⟨rfl, hb1⟩; (first | (have HT := HT.later hb1) | (have HT := HT.drew.later hb1))) | (go_at_call 9; (with_reducible refine (toProg_rd a0 b0 c0 d0 x0 y0 _ (by first | with_reducible exact HI0 _ HT | with_reducible exact HI0 _ HT.drew) HL0.out.1 HL0.out.2.1 HL0.out.2.2).mono ?_); rintro e w1 ⟨k0, k0', rfl, hb1, hm0⟩; (first | (have hm1 := hm1.later hb1) | (have hm1 := hm1.drew.later hb1) | skip); (first | (have HT := HT.later hb1) | (have HT := HT.drew.later hb1))) | (go_at_call 9; (with_reducible refine (toProg_rd a1 b1 c1 d1 x1 y1 _ (by first | with_reducible exact HI1 _ HT | with_reducible exact HI1 _ HT.drew) HL1.out.1 HL1.out.2.1 HL1.out.2.2).mono ?_); rintro e w1 ⟨k1, k1', rfl, hb1, hm1⟩; (first | (have hm0 := hm0.later hb1) | (have hm0 := hm0.drew.later hb1) | skip); (first | (have HT := HT.later hb1) | (have HT := HT.drew.later hb1))))
        all_goals (go_wp2_with fail; go_meet)
        all_goals (first | with_reducible exact ⟨rfl, HT⟩ | with_reducible exact ⟨rfl, HT.drew⟩)
      case rest =>
        clear HC HSV
        obtain ⟨rfl, HT⟩ := hcut
        have e0' := (HT.box 1).c 0
        have e1' := (HT.box 1).c 1
        go_wp2_with fail
        refine (toProg_rd a0 b0 c0 d0 x0 y0 _ (HI0 _ HT) HL0.out.1 HL0.out.2.1 HL0.out.2.2).mono ?_
        rintro e w4 ⟨g4, g4', rfl, hb4, hm4⟩
        have HT := (HT.later hb4).new #[.slice (some ⟨g4, 0, none⟩) x0.length x0.length, .slice (some ⟨g4', 0, none⟩) y0.length y0.length] 31
        have HX0 := (hm4.alloc (Nat.le_refl _) (.cells #[.slice (some ⟨g4, 0, none⟩) x0.length x0.length, .slice (some ⟨g4', 0, none⟩) y0.length y0.length] 31)).more (B' := (w4.alloc (.cells #[.slice (some ⟨g4, 0, none⟩) x0.length x0.length, .slice (some ⟨g4', 0, none⟩) y0.length y0.length] 31)).heap.size) (by simp)
        clear hb4 hm4 e0' e1'
        have e0' := (HT.box 1).c 0
        have e1' := (HT.box 1).c 1
        go_wp2_with fail
        refine (toProg_rd a1 b1 c1 d1 x1 y1 _ (HI1 _ HT) HL1.out.1 HL1.out.2.1 HL1.out.2.2).mono ?_
        rintro e w5 ⟨g5, g5', rfl, hb5, hm5⟩
        have HT := (HT.later hb5).new #[.slice (some ⟨g5, 0, none⟩) x1.length x1.length, .slice (some ⟨g5', 0, none⟩) y1.length y1.length] 31
        have HX0 := ((HX0.later hb5).alloc (Nat.le_refl _) (.cells #[.slice (some ⟨g5, 0, none⟩) x1.length x1.length, .slice (some ⟨g5', 0, none⟩) y1.length y1.length] 31)).more (B' := (w5.alloc (.cells #[.slice (some ⟨g5, 0, none⟩) x1.length x1.length, .slice (some ⟨g5', 0, none⟩) y1.length y1.length] 31)).heap.size) (by simp)
        have HX1 := (hm5.alloc (Nat.le_refl _) (.cells #[.slice (some ⟨g5, 0, none⟩) x1.length x1.length, .slice (some ⟨g5', 0, none⟩) y1.length y1.length] 31)).more (B' := (w5.alloc (.cells #[.slice (some ⟨g5, 0, none⟩) x1.length x1.length, .slice (some ⟨g5', 0, none⟩) y1.length y1.length] 31)).heap.size) (by simp)
        clear hb5 hm5 e0' e1'
        have e0' := (HT.box 0).c 0
        have e1' := (HT.box 0).c 1
        have f0' := (HT.box 1).c 0
        have f1' := (HT.box 1).c 1
        go_wp2_with fail
        refine (HIV _ _ _ _ _ _ _ _ _ HX0 HX1).mono ?_
        rintro e w6 ⟨rfl, hb6⟩
        have HT := HT.later hb6
        have HX0 := HX0.later hb6
        have HX1 := HX1.later hb6
        clear hb6 e0' e1' f0' f1' HIV
        obtain ⟨X1, hX1⟩ : ∃ k, k = w5.heap.size := ⟨_, rfl⟩
        rw [← hX1] at HT ⊢
        obtain ⟨X0, hX0⟩ : ∃ k, k = w4.heap.size := ⟨_, rfl⟩
        rw [← hX0] at HT ⊢
        clear hX0 hX1
        have HC : ∀ W, Held w W [(X1, [.slice (some ⟨g5, 0, none⟩) x1.length x1.length, .slice (some ⟨g5', 0, none⟩) y1.length y1.length]), (X0, [.slice (some ⟨g4, 0, none⟩) x0.length x0.length, .slice (some ⟨g4', 0, none⟩) y0.length y0.length]), (w.heap.size + 1, [.slice a1 x1.length c1, .slice b1 y1.length d1]), (w.heap.size, [.slice a0 x0.length c0, .slice b0 y0.length d0])] → ((W.cell? ⟨X1, 0, none⟩ = some (.slice (some ⟨g5, 0, none⟩) x1.length x1.length) ∧ W.cell? ⟨X1, 1, none⟩ = some (.slice (some ⟨g5', 0, none⟩) y1.length y1.length) ∧ W.cell? ⟨X0, 0, none⟩ = some (.slice (some ⟨g4, 0, none⟩) x0.length x0.length) ∧ W.cell? ⟨X0, 1, none⟩ = some (.slice (some ⟨g4', 0, none⟩) y0.length y0.length)) ∧ (W.cell? ⟨w.heap.size + 1, 0, none⟩ = some (.slice a1 x1.length c1) ∧ W.cell? ⟨w.heap.size + 1, 1, none⟩ = some (.slice b1 y1.length d1) ∧ W.cell? ⟨w.heap.size, 0, none⟩ = some (.slice a0 x0.length c0) ∧ W.cell? ⟨w.heap.size, 1, none⟩ = some (.slice b0 y0.length d0))) := fun W h => ⟨⟨(h.box 0).c 0, (h.box 0).c 1, (h.box 1).c 0, (h.box 1).c 1⟩, (h.box 2).c 0, (h.box 2).c 1, (h.box 3).c 0, (h.box 3).c 1⟩
        go_upto_region 14 with fail
        go_cut [39] (fun s wx => s = .bool false ∧ Held w wx [(X1, [.slice (some ⟨g5, 0, none⟩) x1.length x1.length, .slice (some ⟨g5', 0, none⟩) y1.length y1.length]), (X0, [.slice (some ⟨g4, 0, none⟩) x0.length x0.length, .slice (some ⟨g4', 0, none⟩) y0.length y0.length]), (w.heap.size + 1, [.slice a1 x1.length c1, .slice b1 y1.length d1]), (w.heap.size, [.slice a0 x0.length c0, .slice b0 y0.length d0])] ∧ ProgIn wx wx.heap.size (some ⟨g5, 0, none⟩) (some ⟨g5', 0, none⟩) x1 y1)
        case first =>
          go_region_held3 (fun W => (W.cell? ⟨X1, 0, none⟩ = some (.slice (some ⟨g5, 0, none⟩) x1.length x1.length) ∧ W.cell? ⟨X1, 1, none⟩ = some (.slice (some ⟨g5', 0, none⟩) y1.length y1.length) ∧ W.cell? ⟨X0, 0, none⟩ = some (.slice (some ⟨g4, 0, none⟩) x0.length x0.length) ∧ W.cell? ⟨X0, 1, none⟩ = some (.slice (some ⟨g4', 0, none⟩) y0.length y0.length)) ∧ (W.cell? ⟨w.heap.size + 1, 0, none⟩ = some (.slice a1 x1.length c1) ∧ W.cell? ⟨w.heap.size + 1, 1, none⟩ = some (.slice b1 y1.length d1) ∧ W.cell? ⟨w.heap.size, 0, none⟩ = some (.slice a0 x0.length c0) ∧ W.cell? ⟨w.heap.size, 1, none⟩ = some (.slice b0 y0.length d0)))
            (first | (with_reducible exact HC _ HT) | (with_reducible exact HC _ HT.drew))
            (first | (go_at_call 9; (with_reducible refine (toProg_rd a0 b0 c0 d0 x0 y0 _ (by first | with_reducible exact HI0 _ HT | with_reducible exact HI0 _ HT.drew) HL0.out.1 HL0.out.2.1 HL0.out.2.2).mono ?_); rintro e w1 ⟨k0, k0', rfl, hb1, hm0⟩; (first | (have HX0 := HX0.later hb1) | (have HX0 := HX0.drew.later hb1) | skip); (first | (have HX1 := HX1.later hb1) | (have HX1 := HX1.drew.later hb1) | skip); (first | (have HT := HT.later hb1) | (have HT := HT.drew.later hb1))) | (go_at_call 11; refine (eqProg_same _ _ _ _ _ _ _ _ x0 y0 _ (by first | with_reducible exact HX0 | with_reducible exact HX0.drew) (by first | with_reducible exact hm0 | with_reducible exact hm0.drew) HL0.out.1 HL0.out.2.1 HL0.out.2.2).mono ?_; rintro e w1 ⟨rfl, hb1⟩; (first | (have HX0 := HX0.later hb1) | (have HX0 := HX0.drew.later hb1) | skip); (first | (have HX1 := HX1.later hb1) | (have HX1 := HX1.drew.later hb1) | skip); (first | (have HT := HT.later hb1) | (have HT := HT.drew.later hb1))))
          all_goals (go_wp2_with fail; go_meet)
          all_goals (first | with_reducible exact ⟨rfl, HT, HX1⟩ | with_reducible exact ⟨rfl, HT.drew, HX1.drew⟩)
        case rest =>
          clear HX0 HX1
          obtain ⟨rfl, HT, HX1⟩ := hcut
          have HX0 : True := trivial
          go_upto_region 16 with fail
          go_region_held3 (fun W => (W.cell? ⟨X1, 0, none⟩ = some (.slice (some ⟨g5, 0, none⟩) x1.length x1.length) ∧ W.cell? ⟨X1, 1, none⟩ = some (.slice (some ⟨g5', 0, none⟩) y1.length y1.length) ∧ W.cell? ⟨X0, 0, none⟩ = some (.slice (some ⟨g4, 0, none⟩) x0.length x0.length) ∧ W.cell? ⟨X0, 1, none⟩ = some (.slice (some ⟨g4', 0, none⟩) y0.length y0.length)) ∧ (W.cell? ⟨w.heap.size + 1, 0, none⟩ = some (.slice a1 x1.length c1) ∧ W.cell? ⟨w.heap.size + 1, 1, none⟩ = some (.slice b1 y1.length d1) ∧ W.cell? ⟨w.heap.size, 0, none⟩ = some (.slice a0 x0.length c0) ∧ W.cell? ⟨w.heap.size, 1, none⟩ = some (.slice b0 y0.length d0)))
            (first | (with_reducible exact HC _ HT) | (with_reducible exact HC _ HT.drew))
            (first | (go_at_call 9; (with_reducible refine (toProg_rd a1 b1 c1 d1 x1 y1 _ (by first | with_reducible exact HI1 _ HT | with_reducible exact HI1 _ HT.drew) HL1.out.1 HL1.out.2.1 HL1.out.2.2).mono ?_); rintro e w1 ⟨k1, k1', rfl, hb1, hm1⟩; (first | (have HX1 := HX1.later hb1) | (have HX1 := HX1.drew.later hb1) | skip); (first | (have HT := HT.later hb1) | (have HT := HT.drew.later hb1))) | (go_at_call 11; refine (eqProg_same _ _ _ _ _ _ _ _ x1 y1 _ (by first | with_reducible exact HX1 | with_reducible exact HX1.drew) (by first | with_reducible exact hm1 | with_reducible exact hm1.drew) HL1.out.1 HL1.out.2.1 HL1.out.2.2).mono ?_; rintro e w1 ⟨rfl, hb1⟩; (first | (have HX0 := HX0.later hb1) | (have HX0 := HX0.drew.later hb1) | skip); (first | (have HX1 := HX1.later hb1) | (have HX1 := HX1.drew.later hb1) | skip); (first | (have HT := HT.later hb1) | (have HT := HT.drew.later hb1))))
          all_goals (clear HC HX1 HX0)
          all_goals (go_wp2_with fail; go_ret)
          all_goals exact ⟨rfl, HT.below⟩
    · clear hfit
      go_wp2_with fail
      go_ret
      exact ⟨rfl, HT.below⟩
  · clear hfit
    go_wp2_with fail
    go_ret
    exact ⟨rfl, HT.below⟩

set_option maxRecDepth 100000 in
theorem lifted (os : Os) (started : os.Started) (H : Type) (enc : TypeId × Value → H) :
    ReturnsInHanded {} Try.checked os 4 .any (Rows.fnExactSameProgramSpec.pre6 enc Try.prog Try.f4 Rows.fnExactSameProgramRow.domain false) (Rows.fnExactSameProgramSpec.post enc Try.prog Try.f4 false true false false) := by
  refine returnsInHanded_of_change (C := Try.checked) own started (by kernel_rfl) Try.func4
    (ChangeSpec.witness6 (enc := enc) (C := Try.checked) false ⟨#[], #[.agg #[.slice none 0 0, .slice none 0 0], .agg #[.slice none 0 0, .slice none 0 0]], []⟩ 8 (by kernel_rfl) (by kernel_rfl) (by kernel_rfl) (by kernel_rfl)) ?_
  intro W base args ds gs before hval0 hW hcnd _
  have hval : ∀ (j : Nat) t v, Try.f4.params[j]? = some t → args[j]? = some v → Value.okWide Try.prog W .any base t v := hval0
  have hW' := hW
  obtain ⟨p, q, hA0, hV, rfl, hfz, hnd⟩ := hW
  have hA : DataW.TrodAll enc Try.prog W 0 (fun _ => true) true Try.f4.params.toList args.toList ds p := hA0
  rw [Try.params4] at hA hval
  obtain ⟨v0, vs0, d0, ds0, p0, q0, hargs, rfl, rfl, h0, r1000⟩ := trodAll_cons hA
  obtain ⟨v1, vs1, d1, ds1, p1, q1, rfl, rfl, rfl, h1, r1001⟩ := trodAll_cons r1000
  obtain ⟨rfl, rfl, rfl⟩ := trodAll_nil r1001
  obtain rfl : args = #[v0, v1] := by cases args; simp_all
  obtain ⟨rfl, rfl⟩ := trodVars_none hV
  have k0 := h0
  have lt0 : ∀ x ∈ p0, x.block < W.heap.size := by obtain ⟨m, hm⟩ := k0; exact DataW.trod_lt m _ _ _ hm
  have hv0 := hval 0 25 v0 rfl rfl
  obtain ⟨s0, t0, n0, X0, Y0, rfl, hs0, ht0⟩ := open_pairP (P := Try.prog) (t := 25) Try.underlying25 (by kernel_rfl) rfl rfl (by kernel_rfl) (by kernel_rfl) hv0 h0
  obtain ⟨a0, c0, x0, rfl, r0, m0, v0_⟩ := nodes_of Try.underlying22 (by kernel_rfl) (fun _ _ _ _ _ _ _ _ _ hx => node_of Try.underlying62 (by kernel_rfl) rfl rfl rfl rfl (by kernel_rfl) (by kernel_rfl) (by kernel_rfl) (by kernel_rfl) Try.underlying3 Try.underlying9 Try.underlying3 Try.underlying36 Try.underlying3 (by kernel_rfl) hx) hs0
  obtain ⟨b0, d0, y0, rfl, q0_, o0, u0_⟩ := kinds_of as2 asg asg_as2 Try.underlying23 (by kernel_rfl) flatS64_ (by decide) ht0
  have k1 := h1
  have lt1 : ∀ x ∈ p1, x.block < W.heap.size := by obtain ⟨m, hm⟩ := k1; exact DataW.trod_lt m _ _ _ hm
  have hv1 := hval 1 25 v1 rfl rfl
  obtain ⟨s1, t1, n1, X1, Y1, rfl, hs1, ht1⟩ := open_pairP (P := Try.prog) (t := 25) Try.underlying25 (by kernel_rfl) rfl rfl (by kernel_rfl) (by kernel_rfl) hv1 h1
  obtain ⟨a1, c1, x1, rfl, r1, m1, v1_⟩ := nodes_of Try.underlying22 (by kernel_rfl) (fun _ _ _ _ _ _ _ _ _ hx => node_of Try.underlying62 (by kernel_rfl) rfl rfl rfl rfl (by kernel_rfl) (by kernel_rfl) (by kernel_rfl) (by kernel_rfl) Try.underlying3 Try.underlying9 Try.underlying3 Try.underlying36 Try.underlying3 (by kernel_rfl) hx) hs1
  obtain ⟨b1, d1, y1, rfl, q1_, o1, u1_⟩ := kinds_of as2 asg asg_as2 Try.underlying23 (by kernel_rfl) flatS64_ (by decide) ht1
  clear hA0
  refine (walk W a0 b0 c0 d0 x0 y0 ⟨r0, q0_⟩ ⟨m0, o0⟩ v0_ (fun z hz => asOk_of (u0_ z hz)) a1 b1 c1 d1 x1 y1 ⟨r1, q1_⟩ ⟨m1, o1⟩ v1_ (fun z hz => asOk_of (u1_ z hz))).mono fun e W' ⟨he, bel⟩ => ?_
  subst he
  exact ⟨_, rfl, _, _, _, [], _, [], hW', trodAll_mk1 (shut_bool Try.underlying4 _), (trodAll_cons_mk (Below.trod laidOut (by kernel_rfl) (of_decide_eq_true (by kernel_rfl)) k0 bel lt0) (trodAll_cons_mk (Below.trod laidOut (by kernel_rfl) (of_decide_eq_true (by kernel_rfl)) k1 bel lt1) trodAll_mk0)), rfl, bel.frame _, fun h => by cases h⟩

theorem proved : Rows.FnExactSameProgramSaid :=
  OpenClaim.holds_of_wide 4 Try.f4 rfl rfl rfl rfl rfl rfl rfl ⟨rfl, rfl, rfl, rfl, rfl⟩ rfl rfl rfl rfl rfl (by kernel_rfl) Try.func4 (by kernel_rfl)
    (of_decide_eq_true (by kernel_rfl)) (by unfold Func.isWrapper; first | (rw [if_pos (by decide +kernel)]; kernel_rfl) | (rw [if_neg (by decide +kernel)]; exact ⟨rfl, rfl⟩))
    (fun os started H enc _ => lifted os started H enc)
#print axioms proved
end Go.Proofs.Ytkbdnjhgcoihhaa.fnExactSameProgram
