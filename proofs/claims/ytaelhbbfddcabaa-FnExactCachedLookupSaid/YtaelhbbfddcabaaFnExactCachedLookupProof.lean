/-
  Proved: the law FnExactCachedLookup returns true for every input and its arguments read behind the call as they read before. Conditions: none of our own; those of the given row alone.
-/
import Derived.Test.YtaelhbbfddcabaaRows
import Derived.WalkKit
import Derived.ProofKit
import Derived.OpenShut
import Derived.ShutString
import Derived.SliceStrings
import Derived.ChangeOld
import Derived.Below
import Derived.Test.YtaelhbbfddcabaaMem
import Derived.Test.YtaelhbbfddcabaaInts
import Derived.Test.YtaelhbbfddcabaaFlat
import Derived.Test.YtaelhbbfddcabaaVbox
import Derived.Test.YtaelhbbfddcabaaHeld
import Derived.Test.YtaelhbbfddcabaaRowC
import Derived.Test.YtaelhbbfddcabaaKS
import Derived.Test.YtaelhbbfddcabaaStrS
import Derived.Test.YtaelhbbfddcabaaIntS
import Derived.Test.YtaelhbbfddcabaaSS
import Derived.Test.YtaelhbbfddcabaaPg
import Derived.Test.YtaelhbbfddcabaaVi
import Derived.Test.YtaelhbbfddcabaaVa
import Derived.Test.YtaelhbbfddcabaaVb
import Derived.Test.YtaelhbbfddcabaaVc
import Derived.Test.YtaelhbbfddcabaaVd
import Derived.Test.YtaelhbbfddcabaaVe
import Derived.Test.YtaelhbbfddcabaaVf
import Derived.Test.YtaelhbbfddcabaaVg
import Derived.Test.YtaelhbbfddcabaaVh
import Derived.Test.YtaelhbbfddcabaaWa
import Derived.Test.YtaelhbbfddcabaaWb
import Derived.Test.YtaelhbbfddcabaaWc
import Derived.Test.YtaelhbbfddcabaaWd
import Derived.Test.YtaelhbbfddcabaaWe
import Derived.Test.YtaelhbbfddcabaaWf
import Derived.Test.YtaelhbbfddcabaaWg
import Derived.Test.YtaelhbbfddcabaaWh
import Derived.Test.YtaelhbbfddcabaaWm
import Derived.Test.YtaelhbbfddcabaaWn
import Derived.Test.YtaelhbbfddcabaaWq
import Derived.Test.YtaelhbbfddcabaaWr
import Derived.Test.YtaelhbbfddcabaaWs
import Derived.Test.YtaelhbbfddcabaaWt
import Derived.Deep.RegionHeld3
import Derived.Deep.DeepCutAuto
import Derived.Handy
namespace Go.Proofs.Ytaelhbbfddcabaa.fnExactCachedLookup
open Go.ChangeShapes Go.WideShapes Go.ChangeAt Go.RowKit
open Go.ChangeMaps (open_string shut_string)
set_option linter.unusedVariables false

theorem own : ownKnob Try.prog.godebug = none := by kernel_rfl
theorem laidOut : laidOutB Try.prog = true := by kernel_rfl
theorem flat3 : FlatI Try.prog 3 (Try.prog.cellsOf 3) := by rw [show Try.prog.cellsOf 3 = 1 by kernel_rfl]; exact flat1 Try.underlying3
theorem cells60 : Try.prog.cellsOf 60 = 3 := by kernel_rfl
theorem flat60_ : FlatI Try.prog 60 3 := flatS Try.underlying60 cells60 (by exact ⟨by kernel_rfl, flat3, ⟨by kernel_rfl, flat3, ⟨by kernel_rfl, flat3, by unfold FlatFs; kernel_rfl⟩⟩⟩)
theorem rowC_drew {W : World} {A : Option Addr} {xs : List V3} (h : RowC 3 vg W W.heap.size A xs) : RowC 3 vg W.drew W.drew.heap.size A xs := h.keep fun _ _ => rfl
theorem rowI_alloc {W : World} {A : Option Addr} {xs : List Int} (h : Row I64 W W.heap.size A xs) (o : Obj) : Row I64 (W.alloc o) (W.alloc o).heap.size A xs := (h.alloc (Nat.le_refl _) o).more (by simp)
theorem rowC_alloc {W : World} {A : Option Addr} {xs : List V3} (h : RowC 3 vg W W.heap.size A xs) (o : Obj) : RowC 3 vg (W.alloc o) (W.alloc o).heap.size A xs := (h.alloc (Nat.le_refl _) o).more (by simp)
theorem own_set3W {w : World} {base : Nat} {e : TypeId} {size n g : Nat} {v : Value} {xs : List Value} (h : w.ownsRow base e size v n xs) (hne : v.ownBlock ≠ some g) (x y z : Value) :
    (((w.setCell ⟨g, 0, none⟩ x).setCell ⟨g, 1, none⟩ y).setCell ⟨g, 2, none⟩ z).ownsRow base e size v n xs := ownsRow_setCell_other (ownsRow_setCell_other (ownsRow_setCell_other h (a := ⟨g, 0, none⟩) hne x) (a := ⟨g, 1, none⟩) hne y) (a := ⟨g, 2, none⟩) hne z
set_option maxRecDepth 100000 in
set_option maxHeartbeats 32000000 in
theorem walk (w : World) (l0 : Int) (w0 : (Lit.int .i64 l0).wf = true) (a0 : Option Addr) (c0 : Nat) (x0 : List Int) (r0 : Row (Value.int .i64) w w.heap.size a0 x0) (m0 : x0.length ≤ maxLen) (u0 : ∀ z ∈ x0, (Lit.int .i64 z).wf = true) (l1 : Int) (w1 : (Lit.int .i64 l1).wf = true) (a1 : Option Addr) (c1 : Nat) (x1 : List V3) (r1 : RowC 3 vg w w.heap.size a1 x1) (m1 : x1.length ≤ maxLen) (q1 : ∀ z ∈ x1, wf3 z) (b1 : Int) (u1 : (Lit.int .i64 b1).wf = true) (a2 : Int) (w2 : (Lit.int .i64 a2).wf = true) (a3 : Int) (w3 : (Lit.int .i64 a3).wf = true) (a4 : Int) (w4 : (Lit.int .i64 a4).wf = true) :
    Calls Try.prog 9 #[.agg #[.int .i64 l0, .slice a0 x0.length c0], .agg #[.int .i64 l1, .slice a1 x1.length c1, .int .i64 b1], .int .i64 a2, .int .i64 a3, .int .i64 a4] w fun e w' => e = .returned (.bool true) ∧ Below w.heap.size w w' := by
  have HIN0 := Lib.hid r0
  have HMX0 := Lib.hid m0
  have HIN1 := Lib.hid r1
  have HMX1 := Lib.hid m1
  have HWF := Lib.hid q1
  clear r0 m0 u0 w0 r1 m1 u1 w1 w2 w3 w4 q1
  have HT : Held w ((w.alloc (.cells #[.int .i64 l0, .slice a0 x0.length c0] 47)).alloc (.cells #[.int .i64 l1, .slice a1 x1.length c1, .int .i64 b1] 43)) [(w.heap.size + 1, [.int .i64 l1, .slice a1 x1.length c1, .int .i64 b1]), (w.heap.size, [.int .i64 l0, .slice a0 x0.length c0])] := by
    have h := ((Held.nil w).new #[.int .i64 l0, .slice a0 x0.length c0] 47).new #[.int .i64 l1, .slice a1 x1.length c1, .int .i64 b1] 43
    simpa only [World.size_alloc] using h
  obtain ⟨W1, hW1⟩ : ∃ W, W = (w.alloc (.cells #[.int .i64 l0, .slice a0 x0.length c0] 47)).alloc (.cells #[.int .i64 l1, .slice a1 x1.length c1, .int .i64 b1] 43) := ⟨_, rfl⟩
  rw [← hW1] at HT
  have HIT := Lib.hid (fun W (h : Below w.heap.size w W) => (HIN0.out.below h).more h.size)
  have HI := Lib.hid (fun W (h : Below w.heap.size w W) => (HIN1.out.below h).more h.size)
  have HS0 := Lib.hid (szTex_any l0 a0 c0 x0 1048576 W1 (by omega) (by have := HMX0.out; unfold maxLen at this; omega))
  go_enter Try.func9, Try.ntmps9
  go_upto_region 2 with fail
  rw [← hW1]
  obtain ⟨k1, hk1⟩ : ∃ k, k = w.heap.size + 1 := ⟨_, rfl⟩
  obtain ⟨k0, hk0⟩ : ∃ k, k = w.heap.size := ⟨_, rfl⟩
  rw [← hk1, ← hk0] at HT
  rw [← hk1, ← hk0]
  have m0 := (HT.box 1).c 0
  have m1 := (HT.box 1).c 1
  clear hW1 hk1 hk0
  go_wp2_with fail
  refine HS0.out.mono ?_
  rintro e w1 ⟨hb1, hc⟩
  have HT := HT.later hb1
  clear hb1 HS0 m0 m1
  rcases hc with ⟨hfit, rfl⟩ | ⟨hfit, rfl⟩
  · obtain ⟨q, hq⟩ : ∃ q : Nat, q = 1048576 - x0.length := ⟨_, rfl⟩
    have hl0 : x0.length ≤ 1048576 := hfit
    have hq0 : ¬ ((q : Nat) : Int) < 0 := by omega
    have HS1 := Lib.hid (szCache_any l1 a1 c1 x1 b1 q w1 (by omega) (by have := HMX1.out; unfold maxLen at this; omega))
    have HQB := Lib.hid (show q ≤ 1048576 ∧ q + x0.length = 1048576 by omega)
    rw [← hq]
    have m0 := (HT.box 0).c 0
    have m1 := (HT.box 0).c 1
    have m2 := (HT.box 0).c 2
    have HL0 := Lib.hid hl0
    clear hq hfit hl0
    go_wp2_with fail
    refine HS1.out.mono ?_
    rintro e w2 ⟨hb2, hc⟩
    have HT := HT.later hb2
    clear hb2 HS1 m0 m1 m2
    rcases hc with ⟨hfit, rfl⟩ | ⟨hfit, rfl⟩
    · obtain ⟨p, hp⟩ : ∃ p : Nat, p = q - x1.length := ⟨_, rfl⟩
      have hp0 : ¬ ((p : Nat) : Int) < 0 := by omega
      rw [← hp]
      have hxl : x0.length ≤ 1048576 ∧ x1.length ≤ 1048576 ∧ x0.length + x1.length ≤ 1048576 := by have h1 := HL0.out; have h2 := HQB.out; omega
      clear hp hfit
      obtain ⟨LL, hLL⟩ : ∃ l, l = l1 := ⟨_, rfl⟩
      obtain ⟨VV, hVV⟩ : ∃ v, v = clV l0 x0 l1 x1 b1 a2 a3 a4 := ⟨_, rfl⟩
      obtain ⟨yy, hyy⟩ : ∃ y, y = (clC l0 x0 l1 x1 b1 a2 a3 a4).1 := ⟨_, rfl⟩
      obtain ⟨KK, hKK⟩ : ∃ y, y = (clC l0 x0 l1 x1 b1 a2 a3 a4).2 := ⟨_, rfl⟩
      have HSV := Lib.hid (fun W A B (h : Row I64 W W.heap.size A x0) (h' : RowC 3 vg W W.heap.size B x1) => sCachedL_any l0 A x0.length x0 l1 B x1.length x1 b1 a2 a3 a4 W h h' hxl.1 hxl.2.1 (Nat.le_refl _))
      have HIV := Lib.hid (fun W A B (h : Row I64 W W.heap.size A x0) (h' : RowC 3 vg W W.heap.size B x1) => cachedL_any l0 A x0.length x0 l1 B x1.length x1 b1 a2 a3 a4 W h h' HWF.out hxl.1 (Nat.le_refl _) hxl.2.1)
      have hyl : yy.length ≤ 1048581 := by
        rw [hyy]
        unfold clC
        split
        · have h1 := useA_len l1 (tilesP l0 x0 a2 a3 a4) (x1, b1)
          dsimp only at h1
          have h2 := tilesP_len l0 x0 a2 a3 a4
          omega
        · dsimp only; omega
      rw [← hVV, ← hyy, ← hKK] at HSV HIV
      have HSV : Hid (∀ W A B, Row I64 W W.heap.size A x0 → RowC 3 vg W W.heap.size B x1 → Calls Try.prog 40 #[txv l0 A x0.length x0.length, cav l1 B x1.length x1.length b1, .int .i64 a2, .int .i64 a3, .int .i64 a4] W (ClOut VV LL yy KK W)) := by rw [hLL]; exact HSV
      have HIV : Hid (∀ W A B, Row I64 W W.heap.size A x0 → RowC 3 vg W W.heap.size B x1 → Calls Try.prog 14 #[txv l0 A x0.length x0.length, cav l1 B x1.length x1.length b1, .int .i64 a2, .int .i64 a3, .int .i64 a4] W (ClOut VV LL yy KK W)) := by rw [hLL]; exact HIV
      have HLEN : Hid (x0.length ≤ 1048576 ∧ x1.length ≤ 1048576 ∧ yy.length ≤ 1048581) := Lib.hid ⟨hxl.1, hxl.2.1, hyl⟩
      have TT2 := Lib.hid (fun W (h : Row I64 W W.heap.size a0 x0) => toTex_any l0 a0 c0 x0 W h (by have := HLEN.out; omega))
      have TC := Lib.hid (fun W (h : RowC 3 vg W W.heap.size a1 x1) => toCache_own l1 a1 c1 x1 b1 W h (by have := HLEN.out; omega))
      clear hLL hVV hyy hKK hyl hxl
      obtain ⟨Bq, hBq⟩ : ∃ B, B = w2.heap.size := ⟨_, rfl⟩
      have HCC : Hid (∀ W', Held w W' [(k1, [.int .i64 l1, .slice a1 x1.length c1, .int .i64 b1]), (k0, [.int .i64 l0, .slice a0 x0.length c0])] → (W'.cell? ⟨k0, 0, none⟩ = some (.int .i64 l0) ∧ W'.cell? ⟨k0, 1, none⟩ = some (.slice a0 x0.length c0) ∧ W'.cell? ⟨k1, 0, none⟩ = some (.int .i64 l1) ∧ W'.cell? ⟨k1, 1, none⟩ = some (.slice a1 x1.length c1) ∧ W'.cell? ⟨k1, 2, none⟩ = some (.int .i64 b1))) := Lib.hid (fun W' h => ⟨(h.box 1).c 0, (h.box 1).c 1, (h.box 0).c 0, (h.box 0).c 1, (h.box 0).c 2⟩)
      have HBQ := Lib.hid (show k0 < Bq ∧ k1 < Bq ∧ w.heap.size ≤ Bq by have h1 := (HT.box 1).lt; have h2 := (HT.box 0).lt; have h3 := HT.size; omega)
      have HSZ0 := Lib.hid hBq
      have HC : ∀ W', Held w W' [(k1, [.int .i64 l1, .slice a1 x1.length c1, .int .i64 b1]), (k0, [.int .i64 l0, .slice a0 x0.length c0])] → (W'.cell? ⟨k0, 0, none⟩ = some (.int .i64 l0) ∧ W'.cell? ⟨k0, 1, none⟩ = some (.slice a0 x0.length c0) ∧ W'.cell? ⟨k1, 0, none⟩ = some (.int .i64 l1) ∧ W'.cell? ⟨k1, 1, none⟩ = some (.slice a1 x1.length c1) ∧ W'.cell? ⟨k1, 2, none⟩ = some (.int .i64 b1)) := fun W' h => HCC.out W' h
      have HQ := HT
      clear hBq
      go_upto_region 8 with fail
      go_cut [12, 13] (fun val yv wx => val = .int .i64 VV ∧ ∃ g A6 c6, yv = .pointer (some ⟨g, 0, none⟩) ∧ Held w wx ((g, [.int .i64 LL, .slice A6 yy.length c6, .int .i64 KK]) :: [(k1, [.int .i64 l1, .slice a1 x1.length c1, .int .i64 b1]), (k0, [.int .i64 l0, .slice a0 x0.length c0])]) ∧ wx.ownsRow Bq 50 3 (.slice A6 yy.length c6) yy.length (yy.flatMap vg) ∧ Bq ≤ g ∧ (Value.slice A6 yy.length c6).ownBlock ≠ some g ∧ Below w2.heap.size w2 wx)
      case first =>
        have HQ := HQ.drew
        (try have HRQ := rowC_drew HRQ)
        refine wp_region_held_drew (S := fun W' => W'.cell? ⟨k0, 0, none⟩ = some (.int .i64 l0) ∧ W'.cell? ⟨k0, 1, none⟩ = some (.slice a0 x0.length c0) ∧ W'.cell? ⟨k1, 0, none⟩ = some (.int .i64 l1) ∧ W'.cell? ⟨k1, 1, none⟩ = some (.slice a1 x1.length c1) ∧ W'.cell? ⟨k1, 2, none⟩ = some (.int .i64 b1)) (by kernel_rfl) (HC _ HQ) (fun hHeld => ?_)
        obtain ⟨wd, hwd⟩ : ∃ x, x = w2.drew := ⟨_, rfl⟩
        have HSZ : Hid (Bq ≤ wd.heap.size) := Lib.hid (by rw [hwd, HSZ0.out]; exact Nat.le_refl _)
        have HBW : Hid (Below Bq w2 wd) := Lib.hid (by rw [hwd]; exact (Below.refl _ _).drew)
        rw [← hwd] at HQ hHeld ⊢
        (try rw [← hwd] at HRQ)
        clear hwd
        refine wpAnyH_take (i := 0) (oi := { dst := some 34, op := Op.load 47 (Operand.tmp 5), type := 47, pos := "exact.go:4950", after := #[], guard := none }) (v := ?_) rfl (by kernel_rfl) (by kernel_rfl) (by kernel_rfl) (fun _ _ _ h => h) (Or.inl ⟨by rfl, ?_⟩) (by assumption) ?_
        rotate_left 1
        · (intro w hSw; (try dsimp only at hSw); go_simp <;> with_reducible rfl)
        (try simp only [Act.put, List.setIfInBounds_toArray, List.set_cons_zero, List.set_cons_succ])
        refine wpAnyH_take (i := 2) (oi := { dst := some 36, op := Op.load 43 (Operand.tmp 6), type := 43, pos := "exact.go:4950", after := #[], guard := none }) (v := ?_) rfl (by kernel_rfl) (by kernel_rfl) (by kernel_rfl) (fun _ _ _ h => h) (Or.inl ⟨by rfl, ?_⟩) (by assumption) ?_
        rotate_left 1
        · (intro w hSw; (try dsimp only at hSw); go_simp <;> with_reducible rfl)
        (try simp only [Act.put, List.setIfInBounds_toArray, List.set_cons_zero, List.set_cons_succ])
        refine wpAnyH_take (i := 4) (oi := { dst := some 38, op := Op.move (Operand.tmp 2), type := 3, pos := "exact.go:4950", after := #[], guard := none }) (v := ?_) rfl (by kernel_rfl) (by kernel_rfl) (by kernel_rfl) (fun _ _ _ h => h) (Or.inl ⟨by rfl, ?_⟩) (by assumption) ?_
        rotate_left 1
        · (intro w hSw; (try dsimp only at hSw); go_simp <;> with_reducible rfl)
        (try simp only [Act.put, List.setIfInBounds_toArray, List.set_cons_zero, List.set_cons_succ])
        refine wpAnyH_take (i := 5) (oi := { dst := some 39, op := Op.move (Operand.tmp 3), type := 3, pos := "exact.go:4950", after := #[], guard := none }) (v := ?_) rfl (by kernel_rfl) (by kernel_rfl) (by kernel_rfl) (fun _ _ _ h => h) (Or.inl ⟨by rfl, ?_⟩) (by assumption) ?_
        rotate_left 1
        · (intro w hSw; (try dsimp only at hSw); go_simp <;> with_reducible rfl)
        (try simp only [Act.put, List.setIfInBounds_toArray, List.set_cons_zero, List.set_cons_succ])
        refine wpAnyH_take (i := 6) (oi := { dst := some 40, op := Op.move (Operand.tmp 4), type := 3, pos := "exact.go:4950", after := #[], guard := none }) (v := ?_) rfl (by kernel_rfl) (by kernel_rfl) (by kernel_rfl) (fun _ _ _ h => h) (Or.inl ⟨by rfl, ?_⟩) (by assumption) ?_
        rotate_left 1
        · (intro w hSw; (try dsimp only at hSw); go_simp <;> with_reducible rfl)
        (try simp only [Act.put, List.setIfInBounds_toArray, List.set_cons_zero, List.set_cons_succ])
        refine wpAnyH_ready (rs := [1, 11]) (by kernel_rfl) (by simp) ?_
        refine AllReadyH.cons (o := { dst := some 35, op := Op.call { callee := Callee.value (Operand.func 27), args := #[Operand.tmp 34], argTypes := #[47] }, type := 25, pos := "exact.go:4950", after := #[{ on := 0, ground := Ground.data }], guard := none }) rfl (fun K hK => ?_) ?_
        · go_simp
          (with_reducible refine (TT2.out _ (HIT.out _ HQ.below)).mono ?_)
          rintro e wd ⟨g2, rfl, _, ho2, hb7⟩
          have HQ := HQ.later hb7
          have HRT := ho2.row
          have HBW := Lib.hid (HBW.out.trans (hb7.mono HSZ.out))
          have HSZ := Lib.hid (Nat.le_trans HSZ.out hb7.size)
          clear ho2 hb7
          (try go_wp2_with fail)
          refine hK.out _ _ (by (try dsimp only); (first | with_reducible exact HC _ HQ | with_reducible exact HC _ HQ.tail)) (fun hHeld => ?_)
          clear hK K
          (try simp only [Act.put, List.setIfInBounds_toArray, List.set_cons_zero, List.set_cons_succ])
          refine wpAnyH_ready (rs := [3, 11]) (by kernel_rfl) (by simp) ?_
          refine AllReadyH.cons (o := { dst := some 37, op := Op.call { callee := Callee.value (Operand.func 24), args := #[Operand.tmp 36], argTypes := #[43] }, type := 29, pos := "exact.go:4950", after := #[{ on := 2, ground := Ground.data }, { on := 1, ground := Ground.chain }], guard := none }) rfl (fun K hK => ?_) ?_
          · go_simp
            (with_reducible refine (TC.out _ (HI.out _ HQ.below)).mono ?_)
            rintro e wd ⟨g6, rfl, _, ho6, hb7⟩
            have HQ := HQ.later hb7
            (try have HRT := HRT.later hb7)
            have HRQ := (RowC.of_own vg_len ho6 rfl : RowC 3 vg wd wd.heap.size (some ⟨g6, 0, none⟩) x1)
            have HBW := Lib.hid (HBW.out.trans (hb7.mono HSZ.out))
            have HSZ := Lib.hid (Nat.le_trans HSZ.out hb7.size)
            clear ho6 hb7
            (try go_wp2_with fail)
            refine hK.out _ _ (by (try dsimp only); (first | with_reducible exact HC _ HQ | with_reducible exact HC _ HQ.tail)) (fun hHeld => ?_)
            clear hK K
            (try simp only [Act.put, List.setIfInBounds_toArray, List.set_cons_zero, List.set_cons_succ])
            refine wpAnyH_ready (rs := [7, 11]) (by kernel_rfl) (by simp) ?_
            refine AllReadyH.cons (o := { dst := some 41, op := Op.call { callee := Callee.value (Operand.func 40), args := #[Operand.tmp 35, Operand.tmp 37, Operand.tmp 38, Operand.tmp 39, Operand.tmp 40], argTypes := #[25, 29, 3, 3, 3] }, type := 32, pos := "exact.go:4950", after := #[{ on := 1, ground := Ground.data }, { on := 3, ground := Ground.data }, { on := 4, ground := Ground.data }, { on := 5, ground := Ground.data }, { on := 6, ground := Ground.data }, { on := 3, ground := Ground.chain }], guard := none }) rfl (fun K hK => ?_) ?_
            · go_simp
              (with_reducible refine (HSV.out _ _ _ HRT HRQ).mono ?_)
              rintro e wd ⟨A6, c6, rfl, ho6, hb7⟩
              (try have HNV : Hid (Value.ownBlock (.slice A6 yy.length c6) ≠ some g) := Lib.hid (fun e => by have h1 := own_block ho6 g e; have h2 := (HQ.box 0).lt; omega))
              have HQ := HQ.later hb7
              have HO := Lib.hid (own_base ho6 HSZ.out)
              have HBW := Lib.hid (HBW.out.trans (hb7.mono HSZ.out))
              have HSZ := Lib.hid (Nat.le_trans HSZ.out hb7.size)
              clear ho6 hb7 HRQ HRT
              (try go_wp2_with fail)
              refine hK.out _ _ (by (try dsimp only); (first | with_reducible exact HC _ HQ | with_reducible exact HC _ HQ.tail)) (fun hHeld => ?_)
              clear hK K
              (try simp only [Act.put, List.setIfInBounds_toArray, List.set_cons_zero, List.set_cons_succ])
              refine wpAnyH_take (i := 8) (oi := { dst := some 33, op := Op.move (Operand.tmp 41), type := 32, pos := "exact.go:4950", after := #[{ on := 7, ground := Ground.data }], guard := none }) (v := ?_) rfl (by kernel_rfl) (by kernel_rfl) (by kernel_rfl) (fun _ _ _ h => h) (Or.inl ⟨by rfl, ?_⟩) (by assumption) ?_
              rotate_left 1
              · (intro w hSw; (try dsimp only at hSw); go_simp <;> with_reducible rfl)
              (try simp only [Act.put, List.setIfInBounds_toArray, List.set_cons_zero, List.set_cons_succ])
              refine wpAnyH_take (i := 9) (oi := { dst := some 42, op := Op.extract (Operand.tmp 33) 0, type := 3, pos := "exact.go:4950", after := #[{ on := 8, ground := Ground.data }], guard := none }) (v := ?_) rfl (by kernel_rfl) (by kernel_rfl) (by kernel_rfl) (fun _ _ _ h => h) (Or.inl ⟨by rfl, ?_⟩) (by assumption) ?_
              rotate_left 1
              · (intro w hSw; (try dsimp only at hSw); go_simp <;> with_reducible rfl)
              (try simp only [Act.put, List.setIfInBounds_toArray, List.set_cons_zero, List.set_cons_succ])
              refine wpAnyH_take (i := 10) (oi := { dst := some 43, op := Op.extract (Operand.tmp 33) 1, type := 29, pos := "exact.go:4950", after := #[{ on := 8, ground := Ground.data }, { on := 12, ground := Ground.gcOnly Departure.lateStores }], guard := none }) (v := ?_) rfl (by kernel_rfl) (by kernel_rfl) (by kernel_rfl) (fun _ _ _ h => h) (Or.inl ⟨by rfl, ?_⟩) (by assumption) ?_
              rotate_left 1
              · (intro w hSw; (try dsimp only at hSw); go_simp <;> with_reducible rfl)
              (try simp only [Act.put, List.setIfInBounds_toArray, List.set_cons_zero, List.set_cons_succ])
              refine wpAnyH_ready (rs := [11]) (by kernel_rfl) (by simp) ?_
              refine AllReadyH.cons (o := { dst := some 13, op := Op.alloc 29, type := 0, pos := "exact.go:4950", after := #[], guard := none }) rfl (fun K hK => ?_) ?_
              · go_simp
                (try have HNV0 := fun q (e : Value.ownBlock _ = some q) => (HO.out.lt q e).2)
                have HQ := HQ.new #[.int .i64 0, .slice none 0 0, .int .i64 0] 29
                (try have HO := Lib.hid (HO.out.alloc (.cells #[.int .i64 0, .slice none 0 0, .int .i64 0] 29)))
                (try have HRQ := rowC_alloc HRQ (.cells #[.int .i64 0, .slice none 0 0, .int .i64 0] 29))
                (try have HRT := rowI_alloc HRT (.cells #[.int .i64 0, .slice none 0 0, .int .i64 0] 29))
                refine hK.out _ _ (by (try dsimp only); (first | with_reducible exact HC _ HQ | with_reducible exact HC _ HQ.tail)) (fun hHeld => ?_)
                obtain ⟨wn, hwn⟩ : ∃ W, W = wd.alloc (.cells #[.int .i64 0, .slice none 0 0, .int .i64 0] 29) := ⟨_, rfl⟩
                obtain ⟨g, hg⟩ : ∃ k, k = wd.heap.size := ⟨_, rfl⟩
                have HGB := Lib.hid (show Bq ≤ g by rw [hg]; exact HSZ.out)
                have HBW := Lib.hid (HBW.out.alloc HSZ.out (.cells #[.int .i64 0, .slice none 0 0, .int .i64 0] 29))
                have HSZ : Hid (Bq ≤ (wd.alloc (.cells #[.int .i64 0, .slice none 0 0, .int .i64 0] 29)).heap.size) := Lib.hid (by have := HSZ.out; simp; omega)
                rw [← hwn] at HQ HSZ HBW hHeld ⊢
                (try rw [← hwn] at HO)
                (try rw [← hwn] at HRQ)
                (try rw [← hwn] at HRT)
                rw [← hg] at HQ ⊢
                (try rw [← hg] at HNV0)
                (try have HNV := Lib.hid (fun (e : Value.ownBlock _ = some g) => Nat.lt_irrefl _ (HNV0 g e)))
                (try clear HNV0)
                clear hwn hg
                clear hK K
                (try simp only [Act.put, List.setIfInBounds_toArray, List.set_cons_zero, List.set_cons_succ])
                refine wpAnyH_take (i := 12) (oi := { dst := some 12, op := Op.assign (Operand.tmp 42), type := 3, pos := "exact.go:4950", after := #[{ on := 9, ground := Ground.data }, { on := 7, ground := Ground.chain }, { on := 0, ground := Ground.phase }, { on := 1, ground := Ground.phase }, { on := 2, ground := Ground.phase }, { on := 3, ground := Ground.phase }, { on := 4, ground := Ground.phase }, { on := 5, ground := Ground.phase }, { on := 6, ground := Ground.phase }, { on := 7, ground := Ground.phase }, { on := 8, ground := Ground.phase }, { on := 9, ground := Ground.phase }, { on := 10, ground := Ground.textOnly Departure.lateStores }, { on := 11, ground := Ground.phase }], guard := none }) (v := ?_) rfl (by kernel_rfl) (by kernel_rfl) (by kernel_rfl) (fun _ _ _ h => h) (Or.inl ⟨by rfl, ?_⟩) (by assumption) ?_
                rotate_left 1
                · (intro w hSw; (try dsimp only at hSw); go_simp <;> with_reducible rfl)
                (try simp only [Act.put, List.setIfInBounds_toArray, List.set_cons_zero, List.set_cons_succ])
                refine wpAnyH_ready (rs := [13]) (by kernel_rfl) (by simp) ?_
                refine AllReadyH.cons (o := { dst := none, op := Op.store 29 (Operand.tmp 13) (Operand.tmp 43), type := 0, pos := "exact.go:4950", after := #[{ on := 11, ground := Ground.data }, { on := 10, ground := Ground.data }, { on := 12, ground := Ground.chain }, { on := 0, ground := Ground.phase }, { on := 1, ground := Ground.phase }, { on := 2, ground := Ground.phase }, { on := 3, ground := Ground.phase }, { on := 4, ground := Ground.phase }, { on := 5, ground := Ground.phase }, { on := 6, ground := Ground.phase }, { on := 7, ground := Ground.phase }, { on := 8, ground := Ground.phase }, { on := 9, ground := Ground.phase }, { on := 10, ground := Ground.phase }, { on := 11, ground := Ground.phase }, { on := 12, ground := Ground.phase }], guard := none }) rfl (fun K hK => ?_) ?_
                · have c60 := (HQ.box 0).c 0
                  have c61 := (HQ.box 0).c 1
                  have c62 := (HQ.box 0).c 2
                  have f60 := (HQ.box 0).f 0
                  have f61 := (HQ.box 0).f 1
                  have f62 := (HQ.box 0).f 2
                  go_simp
                  clear c60 c61 c62 f60 f61 f62
                  have HQ := ((HQ.put (by have h1 := HGB.out; have h2 := HBQ.out; omega) (fun p hp => by (have h1 := HGB.out; have h2 := HBQ.out; simp only [List.mem_cons, List.not_mem_nil, or_false] at hp; rcases hp with rfl | rfl <;> (show _ ≠ _) <;> omega)) 0 (.int .i64 LL)).put (by have h1 := HGB.out; have h2 := HBQ.out; omega) (fun p hp => by (have h1 := HGB.out; have h2 := HBQ.out; simp only [List.mem_cons, List.not_mem_nil, or_false] at hp; rcases hp with rfl | rfl <;> (show _ ≠ _) <;> omega)) 1 (.slice A6 yy.length c6)).put (by have h1 := HGB.out; have h2 := HBQ.out; omega) (fun p hp => by (have h1 := HGB.out; have h2 := HBQ.out; simp only [List.mem_cons, List.not_mem_nil, or_false] at hp; rcases hp with rfl | rfl <;> (show _ ≠ _) <;> omega)) 2 (.int .i64 KK)
                  have HO := Lib.hid (own_set3W HO.out HNV.out (.int .i64 LL) (.slice A6 yy.length c6) (.int .i64 KK))
                  have HBW := Lib.hid (((HBW.out.setCell (p := ⟨g, 0, none⟩) HGB.out (.int .i64 LL)).setCell (p := ⟨g, 1, none⟩) HGB.out (.slice A6 yy.length c6)).setCell (p := ⟨g, 2, none⟩) HGB.out (.int .i64 KK))
                  refine hK.out _ _ (by (try dsimp only); exact HC _ HQ.tail) (fun hHeld => ?_)
                  clear hK K
                  (try simp only [Act.put, List.setIfInBounds_toArray, List.set_cons_zero, List.set_cons_succ])
                  refine wpAnyH_done (by kernel_rfl) ?_ _
                  clear hHeld
                  go_wp2
                  go_meet
                  exact ⟨rfl, _, A6, c6, rfl, HQ, HO.out, HGB.out, HNV.out, by rw [← HSZ0.out]; exact HBW.out⟩
                exact AllReadyH.nil
              exact AllReadyH.nil
            refine AllReadyH.cons (o := { dst := some 13, op := Op.alloc 29, type := 0, pos := "exact.go:4950", after := #[], guard := none }) rfl (fun K hK => ?_) ?_
            · go_simp
              (try have HNV0 := fun q (e : Value.ownBlock _ = some q) => (HO.out.lt q e).2)
              have HQ := HQ.new #[.int .i64 0, .slice none 0 0, .int .i64 0] 29
              (try have HO := Lib.hid (HO.out.alloc (.cells #[.int .i64 0, .slice none 0 0, .int .i64 0] 29)))
              (try have HRQ := rowC_alloc HRQ (.cells #[.int .i64 0, .slice none 0 0, .int .i64 0] 29))
              (try have HRT := rowI_alloc HRT (.cells #[.int .i64 0, .slice none 0 0, .int .i64 0] 29))
              refine hK.out _ _ (by (try dsimp only); (first | with_reducible exact HC _ HQ | with_reducible exact HC _ HQ.tail)) (fun hHeld => ?_)
              obtain ⟨wn, hwn⟩ : ∃ W, W = wd.alloc (.cells #[.int .i64 0, .slice none 0 0, .int .i64 0] 29) := ⟨_, rfl⟩
              obtain ⟨g, hg⟩ : ∃ k, k = wd.heap.size := ⟨_, rfl⟩
              have HGB := Lib.hid (show Bq ≤ g by rw [hg]; exact HSZ.out)
              have HBW := Lib.hid (HBW.out.alloc HSZ.out (.cells #[.int .i64 0, .slice none 0 0, .int .i64 0] 29))
              have HSZ : Hid (Bq ≤ (wd.alloc (.cells #[.int .i64 0, .slice none 0 0, .int .i64 0] 29)).heap.size) := Lib.hid (by have := HSZ.out; simp; omega)
              rw [← hwn] at HQ HSZ HBW hHeld ⊢
              (try rw [← hwn] at HO)
              (try rw [← hwn] at HRQ)
              (try rw [← hwn] at HRT)
              rw [← hg] at HQ ⊢
              (try rw [← hg] at HNV0)
              (try have HNV := Lib.hid (fun (e : Value.ownBlock _ = some g) => Nat.lt_irrefl _ (HNV0 g e)))
              (try clear HNV0)
              clear hwn hg
              clear hK K
              (try simp only [Act.put, List.setIfInBounds_toArray, List.set_cons_zero, List.set_cons_succ])
              refine wpAnyH_ready (rs := [7]) (by kernel_rfl) (by simp) ?_
              refine AllReadyH.cons (o := { dst := some 41, op := Op.call { callee := Callee.value (Operand.func 40), args := #[Operand.tmp 35, Operand.tmp 37, Operand.tmp 38, Operand.tmp 39, Operand.tmp 40], argTypes := #[25, 29, 3, 3, 3] }, type := 32, pos := "exact.go:4950", after := #[{ on := 1, ground := Ground.data }, { on := 3, ground := Ground.data }, { on := 4, ground := Ground.data }, { on := 5, ground := Ground.data }, { on := 6, ground := Ground.data }, { on := 3, ground := Ground.chain }], guard := none }) rfl (fun K hK => ?_) ?_
              · go_simp
                (with_reducible refine (HSV.out _ _ _ HRT HRQ).mono ?_)
                rintro e wd ⟨A6, c6, rfl, ho6, hb7⟩
                (try have HNV : Hid (Value.ownBlock (.slice A6 yy.length c6) ≠ some g) := Lib.hid (fun e => by have h1 := own_block ho6 g e; have h2 := (HQ.box 0).lt; omega))
                have HQ := HQ.later hb7
                have HO := Lib.hid (own_base ho6 HSZ.out)
                have HBW := Lib.hid (HBW.out.trans (hb7.mono HSZ.out))
                have HSZ := Lib.hid (Nat.le_trans HSZ.out hb7.size)
                clear ho6 hb7 HRQ HRT
                (try go_wp2_with fail)
                refine hK.out _ _ (by (try dsimp only); (first | with_reducible exact HC _ HQ | with_reducible exact HC _ HQ.tail)) (fun hHeld => ?_)
                clear hK K
                (try simp only [Act.put, List.setIfInBounds_toArray, List.set_cons_zero, List.set_cons_succ])
                refine wpAnyH_take (i := 8) (oi := { dst := some 33, op := Op.move (Operand.tmp 41), type := 32, pos := "exact.go:4950", after := #[{ on := 7, ground := Ground.data }], guard := none }) (v := ?_) rfl (by kernel_rfl) (by kernel_rfl) (by kernel_rfl) (fun _ _ _ h => h) (Or.inl ⟨by rfl, ?_⟩) (by assumption) ?_
                rotate_left 1
                · (intro w hSw; (try dsimp only at hSw); go_simp <;> with_reducible rfl)
                (try simp only [Act.put, List.setIfInBounds_toArray, List.set_cons_zero, List.set_cons_succ])
                refine wpAnyH_take (i := 9) (oi := { dst := some 42, op := Op.extract (Operand.tmp 33) 0, type := 3, pos := "exact.go:4950", after := #[{ on := 8, ground := Ground.data }], guard := none }) (v := ?_) rfl (by kernel_rfl) (by kernel_rfl) (by kernel_rfl) (fun _ _ _ h => h) (Or.inl ⟨by rfl, ?_⟩) (by assumption) ?_
                rotate_left 1
                · (intro w hSw; (try dsimp only at hSw); go_simp <;> with_reducible rfl)
                (try simp only [Act.put, List.setIfInBounds_toArray, List.set_cons_zero, List.set_cons_succ])
                refine wpAnyH_take (i := 10) (oi := { dst := some 43, op := Op.extract (Operand.tmp 33) 1, type := 29, pos := "exact.go:4950", after := #[{ on := 8, ground := Ground.data }, { on := 12, ground := Ground.gcOnly Departure.lateStores }], guard := none }) (v := ?_) rfl (by kernel_rfl) (by kernel_rfl) (by kernel_rfl) (fun _ _ _ h => h) (Or.inl ⟨by rfl, ?_⟩) (by assumption) ?_
                rotate_left 1
                · (intro w hSw; (try dsimp only at hSw); go_simp <;> with_reducible rfl)
                (try simp only [Act.put, List.setIfInBounds_toArray, List.set_cons_zero, List.set_cons_succ])
                refine wpAnyH_take (i := 12) (oi := { dst := some 12, op := Op.assign (Operand.tmp 42), type := 3, pos := "exact.go:4950", after := #[{ on := 9, ground := Ground.data }, { on := 7, ground := Ground.chain }, { on := 0, ground := Ground.phase }, { on := 1, ground := Ground.phase }, { on := 2, ground := Ground.phase }, { on := 3, ground := Ground.phase }, { on := 4, ground := Ground.phase }, { on := 5, ground := Ground.phase }, { on := 6, ground := Ground.phase }, { on := 7, ground := Ground.phase }, { on := 8, ground := Ground.phase }, { on := 9, ground := Ground.phase }, { on := 10, ground := Ground.textOnly Departure.lateStores }, { on := 11, ground := Ground.phase }], guard := none }) (v := ?_) rfl (by kernel_rfl) (by kernel_rfl) (by kernel_rfl) (fun _ _ _ h => h) (Or.inl ⟨by rfl, ?_⟩) (by assumption) ?_
                rotate_left 1
                · (intro w hSw; (try dsimp only at hSw); go_simp <;> with_reducible rfl)
                (try simp only [Act.put, List.setIfInBounds_toArray, List.set_cons_zero, List.set_cons_succ])
                refine wpAnyH_ready (rs := [13]) (by kernel_rfl) (by simp) ?_
                refine AllReadyH.cons (o := { dst := none, op := Op.store 29 (Operand.tmp 13) (Operand.tmp 43), type := 0, pos := "exact.go:4950", after := #[{ on := 11, ground := Ground.data }, { on := 10, ground := Ground.data }, { on := 12, ground := Ground.chain }, { on := 0, ground := Ground.phase }, { on := 1, ground := Ground.phase }, { on := 2, ground := Ground.phase }, { on := 3, ground := Ground.phase }, { on := 4, ground := Ground.phase }, { on := 5, ground := Ground.phase }, { on := 6, ground := Ground.phase }, { on := 7, ground := Ground.phase }, { on := 8, ground := Ground.phase }, { on := 9, ground := Ground.phase }, { on := 10, ground := Ground.phase }, { on := 11, ground := Ground.phase }, { on := 12, ground := Ground.phase }], guard := none }) rfl (fun K hK => ?_) ?_
                · have c60 := (HQ.box 0).c 0
                  have c61 := (HQ.box 0).c 1
                  have c62 := (HQ.box 0).c 2
                  have f60 := (HQ.box 0).f 0
                  have f61 := (HQ.box 0).f 1
                  have f62 := (HQ.box 0).f 2
                  go_simp
                  clear c60 c61 c62 f60 f61 f62
                  have HQ := ((HQ.put (by have h1 := HGB.out; have h2 := HBQ.out; omega) (fun p hp => by (have h1 := HGB.out; have h2 := HBQ.out; simp only [List.mem_cons, List.not_mem_nil, or_false] at hp; rcases hp with rfl | rfl <;> (show _ ≠ _) <;> omega)) 0 (.int .i64 LL)).put (by have h1 := HGB.out; have h2 := HBQ.out; omega) (fun p hp => by (have h1 := HGB.out; have h2 := HBQ.out; simp only [List.mem_cons, List.not_mem_nil, or_false] at hp; rcases hp with rfl | rfl <;> (show _ ≠ _) <;> omega)) 1 (.slice A6 yy.length c6)).put (by have h1 := HGB.out; have h2 := HBQ.out; omega) (fun p hp => by (have h1 := HGB.out; have h2 := HBQ.out; simp only [List.mem_cons, List.not_mem_nil, or_false] at hp; rcases hp with rfl | rfl <;> (show _ ≠ _) <;> omega)) 2 (.int .i64 KK)
                  have HO := Lib.hid (own_set3W HO.out HNV.out (.int .i64 LL) (.slice A6 yy.length c6) (.int .i64 KK))
                  have HBW := Lib.hid (((HBW.out.setCell (p := ⟨g, 0, none⟩) HGB.out (.int .i64 LL)).setCell (p := ⟨g, 1, none⟩) HGB.out (.slice A6 yy.length c6)).setCell (p := ⟨g, 2, none⟩) HGB.out (.int .i64 KK))
                  refine hK.out _ _ (by (try dsimp only); exact HC _ HQ.tail) (fun hHeld => ?_)
                  clear hK K
                  (try simp only [Act.put, List.setIfInBounds_toArray, List.set_cons_zero, List.set_cons_succ])
                  refine wpAnyH_done (by kernel_rfl) ?_ _
                  clear hHeld
                  go_wp2
                  go_meet
                  exact ⟨rfl, _, A6, c6, rfl, HQ, HO.out, HGB.out, HNV.out, by rw [← HSZ0.out]; exact HBW.out⟩
                exact AllReadyH.nil
              exact AllReadyH.nil
            exact AllReadyH.nil
          refine AllReadyH.cons (o := { dst := some 13, op := Op.alloc 29, type := 0, pos := "exact.go:4950", after := #[], guard := none }) rfl (fun K hK => ?_) ?_
          · go_simp
            (try have HNV0 := fun q (e : Value.ownBlock _ = some q) => (HO.out.lt q e).2)
            have HQ := HQ.new #[.int .i64 0, .slice none 0 0, .int .i64 0] 29
            (try have HO := Lib.hid (HO.out.alloc (.cells #[.int .i64 0, .slice none 0 0, .int .i64 0] 29)))
            (try have HRQ := rowC_alloc HRQ (.cells #[.int .i64 0, .slice none 0 0, .int .i64 0] 29))
            (try have HRT := rowI_alloc HRT (.cells #[.int .i64 0, .slice none 0 0, .int .i64 0] 29))
            refine hK.out _ _ (by (try dsimp only); (first | with_reducible exact HC _ HQ | with_reducible exact HC _ HQ.tail)) (fun hHeld => ?_)
            obtain ⟨wn, hwn⟩ : ∃ W, W = wd.alloc (.cells #[.int .i64 0, .slice none 0 0, .int .i64 0] 29) := ⟨_, rfl⟩
            obtain ⟨g, hg⟩ : ∃ k, k = wd.heap.size := ⟨_, rfl⟩
            have HGB := Lib.hid (show Bq ≤ g by rw [hg]; exact HSZ.out)
            have HBW := Lib.hid (HBW.out.alloc HSZ.out (.cells #[.int .i64 0, .slice none 0 0, .int .i64 0] 29))
            have HSZ : Hid (Bq ≤ (wd.alloc (.cells #[.int .i64 0, .slice none 0 0, .int .i64 0] 29)).heap.size) := Lib.hid (by have := HSZ.out; simp; omega)
            rw [← hwn] at HQ HSZ HBW hHeld ⊢
            (try rw [← hwn] at HO)
            (try rw [← hwn] at HRQ)
            (try rw [← hwn] at HRT)
            rw [← hg] at HQ ⊢
            (try rw [← hg] at HNV0)
            (try have HNV := Lib.hid (fun (e : Value.ownBlock _ = some g) => Nat.lt_irrefl _ (HNV0 g e)))
            (try clear HNV0)
            clear hwn hg
            clear hK K
            (try simp only [Act.put, List.setIfInBounds_toArray, List.set_cons_zero, List.set_cons_succ])
            refine wpAnyH_ready (rs := [3]) (by kernel_rfl) (by simp) ?_
            refine AllReadyH.cons (o := { dst := some 37, op := Op.call { callee := Callee.value (Operand.func 24), args := #[Operand.tmp 36], argTypes := #[43] }, type := 29, pos := "exact.go:4950", after := #[{ on := 2, ground := Ground.data }, { on := 1, ground := Ground.chain }], guard := none }) rfl (fun K hK => ?_) ?_
            · go_simp
              (with_reducible refine (TC.out _ (HI.out _ HQ.below)).mono ?_)
              rintro e wd ⟨g6, rfl, _, ho6, hb7⟩
              have HQ := HQ.later hb7
              (try have HRT := HRT.later hb7)
              have HRQ := (RowC.of_own vg_len ho6 rfl : RowC 3 vg wd wd.heap.size (some ⟨g6, 0, none⟩) x1)
              have HBW := Lib.hid (HBW.out.trans (hb7.mono HSZ.out))
              have HSZ := Lib.hid (Nat.le_trans HSZ.out hb7.size)
              clear ho6 hb7
              (try go_wp2_with fail)
              refine hK.out _ _ (by (try dsimp only); (first | with_reducible exact HC _ HQ | with_reducible exact HC _ HQ.tail)) (fun hHeld => ?_)
              clear hK K
              (try simp only [Act.put, List.setIfInBounds_toArray, List.set_cons_zero, List.set_cons_succ])
              refine wpAnyH_ready (rs := [7]) (by kernel_rfl) (by simp) ?_
              refine AllReadyH.cons (o := { dst := some 41, op := Op.call { callee := Callee.value (Operand.func 40), args := #[Operand.tmp 35, Operand.tmp 37, Operand.tmp 38, Operand.tmp 39, Operand.tmp 40], argTypes := #[25, 29, 3, 3, 3] }, type := 32, pos := "exact.go:4950", after := #[{ on := 1, ground := Ground.data }, { on := 3, ground := Ground.data }, { on := 4, ground := Ground.data }, { on := 5, ground := Ground.data }, { on := 6, ground := Ground.data }, { on := 3, ground := Ground.chain }], guard := none }) rfl (fun K hK => ?_) ?_
              · go_simp
                (with_reducible refine (HSV.out _ _ _ HRT HRQ).mono ?_)
                rintro e wd ⟨A6, c6, rfl, ho6, hb7⟩
                (try have HNV : Hid (Value.ownBlock (.slice A6 yy.length c6) ≠ some g) := Lib.hid (fun e => by have h1 := own_block ho6 g e; have h2 := (HQ.box 0).lt; omega))
                have HQ := HQ.later hb7
                have HO := Lib.hid (own_base ho6 HSZ.out)
                have HBW := Lib.hid (HBW.out.trans (hb7.mono HSZ.out))
                have HSZ := Lib.hid (Nat.le_trans HSZ.out hb7.size)
                clear ho6 hb7 HRQ HRT
                (try go_wp2_with fail)
                refine hK.out _ _ (by (try dsimp only); (first | with_reducible exact HC _ HQ | with_reducible exact HC _ HQ.tail)) (fun hHeld => ?_)
                clear hK K
                (try simp only [Act.put, List.setIfInBounds_toArray, List.set_cons_zero, List.set_cons_succ])
                refine wpAnyH_take (i := 8) (oi := { dst := some 33, op := Op.move (Operand.tmp 41), type := 32, pos := "exact.go:4950", after := #[{ on := 7, ground := Ground.data }], guard := none }) (v := ?_) rfl (by kernel_rfl) (by kernel_rfl) (by kernel_rfl) (fun _ _ _ h => h) (Or.inl ⟨by rfl, ?_⟩) (by assumption) ?_
                rotate_left 1
                · (intro w hSw; (try dsimp only at hSw); go_simp <;> with_reducible rfl)
                (try simp only [Act.put, List.setIfInBounds_toArray, List.set_cons_zero, List.set_cons_succ])
                refine wpAnyH_take (i := 9) (oi := { dst := some 42, op := Op.extract (Operand.tmp 33) 0, type := 3, pos := "exact.go:4950", after := #[{ on := 8, ground := Ground.data }], guard := none }) (v := ?_) rfl (by kernel_rfl) (by kernel_rfl) (by kernel_rfl) (fun _ _ _ h => h) (Or.inl ⟨by rfl, ?_⟩) (by assumption) ?_
                rotate_left 1
                · (intro w hSw; (try dsimp only at hSw); go_simp <;> with_reducible rfl)
                (try simp only [Act.put, List.setIfInBounds_toArray, List.set_cons_zero, List.set_cons_succ])
                refine wpAnyH_take (i := 10) (oi := { dst := some 43, op := Op.extract (Operand.tmp 33) 1, type := 29, pos := "exact.go:4950", after := #[{ on := 8, ground := Ground.data }, { on := 12, ground := Ground.gcOnly Departure.lateStores }], guard := none }) (v := ?_) rfl (by kernel_rfl) (by kernel_rfl) (by kernel_rfl) (fun _ _ _ h => h) (Or.inl ⟨by rfl, ?_⟩) (by assumption) ?_
                rotate_left 1
                · (intro w hSw; (try dsimp only at hSw); go_simp <;> with_reducible rfl)
                (try simp only [Act.put, List.setIfInBounds_toArray, List.set_cons_zero, List.set_cons_succ])
                refine wpAnyH_take (i := 12) (oi := { dst := some 12, op := Op.assign (Operand.tmp 42), type := 3, pos := "exact.go:4950", after := #[{ on := 9, ground := Ground.data }, { on := 7, ground := Ground.chain }, { on := 0, ground := Ground.phase }, { on := 1, ground := Ground.phase }, { on := 2, ground := Ground.phase }, { on := 3, ground := Ground.phase }, { on := 4, ground := Ground.phase }, { on := 5, ground := Ground.phase }, { on := 6, ground := Ground.phase }, { on := 7, ground := Ground.phase }, { on := 8, ground := Ground.phase }, { on := 9, ground := Ground.phase }, { on := 10, ground := Ground.textOnly Departure.lateStores }, { on := 11, ground := Ground.phase }], guard := none }) (v := ?_) rfl (by kernel_rfl) (by kernel_rfl) (by kernel_rfl) (fun _ _ _ h => h) (Or.inl ⟨by rfl, ?_⟩) (by assumption) ?_
                rotate_left 1
                · (intro w hSw; (try dsimp only at hSw); go_simp <;> with_reducible rfl)
                (try simp only [Act.put, List.setIfInBounds_toArray, List.set_cons_zero, List.set_cons_succ])
                refine wpAnyH_ready (rs := [13]) (by kernel_rfl) (by simp) ?_
                refine AllReadyH.cons (o := { dst := none, op := Op.store 29 (Operand.tmp 13) (Operand.tmp 43), type := 0, pos := "exact.go:4950", after := #[{ on := 11, ground := Ground.data }, { on := 10, ground := Ground.data }, { on := 12, ground := Ground.chain }, { on := 0, ground := Ground.phase }, { on := 1, ground := Ground.phase }, { on := 2, ground := Ground.phase }, { on := 3, ground := Ground.phase }, { on := 4, ground := Ground.phase }, { on := 5, ground := Ground.phase }, { on := 6, ground := Ground.phase }, { on := 7, ground := Ground.phase }, { on := 8, ground := Ground.phase }, { on := 9, ground := Ground.phase }, { on := 10, ground := Ground.phase }, { on := 11, ground := Ground.phase }, { on := 12, ground := Ground.phase }], guard := none }) rfl (fun K hK => ?_) ?_
                · have c60 := (HQ.box 0).c 0
                  have c61 := (HQ.box 0).c 1
                  have c62 := (HQ.box 0).c 2
                  have f60 := (HQ.box 0).f 0
                  have f61 := (HQ.box 0).f 1
                  have f62 := (HQ.box 0).f 2
                  go_simp
                  clear c60 c61 c62 f60 f61 f62
                  have HQ := ((HQ.put (by have h1 := HGB.out; have h2 := HBQ.out; omega) (fun p hp => by (have h1 := HGB.out; have h2 := HBQ.out; simp only [List.mem_cons, List.not_mem_nil, or_false] at hp; rcases hp with rfl | rfl <;> (show _ ≠ _) <;> omega)) 0 (.int .i64 LL)).put (by have h1 := HGB.out; have h2 := HBQ.out; omega) (fun p hp => by (have h1 := HGB.out; have h2 := HBQ.out; simp only [List.mem_cons, List.not_mem_nil, or_false] at hp; rcases hp with rfl | rfl <;> (show _ ≠ _) <;> omega)) 1 (.slice A6 yy.length c6)).put (by have h1 := HGB.out; have h2 := HBQ.out; omega) (fun p hp => by (have h1 := HGB.out; have h2 := HBQ.out; simp only [List.mem_cons, List.not_mem_nil, or_false] at hp; rcases hp with rfl | rfl <;> (show _ ≠ _) <;> omega)) 2 (.int .i64 KK)
                  have HO := Lib.hid (own_set3W HO.out HNV.out (.int .i64 LL) (.slice A6 yy.length c6) (.int .i64 KK))
                  have HBW := Lib.hid (((HBW.out.setCell (p := ⟨g, 0, none⟩) HGB.out (.int .i64 LL)).setCell (p := ⟨g, 1, none⟩) HGB.out (.slice A6 yy.length c6)).setCell (p := ⟨g, 2, none⟩) HGB.out (.int .i64 KK))
                  refine hK.out _ _ (by (try dsimp only); exact HC _ HQ.tail) (fun hHeld => ?_)
                  clear hK K
                  (try simp only [Act.put, List.setIfInBounds_toArray, List.set_cons_zero, List.set_cons_succ])
                  refine wpAnyH_done (by kernel_rfl) ?_ _
                  clear hHeld
                  go_wp2
                  go_meet
                  exact ⟨rfl, _, A6, c6, rfl, HQ, HO.out, HGB.out, HNV.out, by rw [← HSZ0.out]; exact HBW.out⟩
                exact AllReadyH.nil
              exact AllReadyH.nil
            exact AllReadyH.nil
          exact AllReadyH.nil
        refine AllReadyH.cons (o := { dst := some 13, op := Op.alloc 29, type := 0, pos := "exact.go:4950", after := #[], guard := none }) rfl (fun K hK => ?_) ?_
        · go_simp
          (try have HNV0 := fun q (e : Value.ownBlock _ = some q) => (HO.out.lt q e).2)
          have HQ := HQ.new #[.int .i64 0, .slice none 0 0, .int .i64 0] 29
          (try have HO := Lib.hid (HO.out.alloc (.cells #[.int .i64 0, .slice none 0 0, .int .i64 0] 29)))
          (try have HRQ := rowC_alloc HRQ (.cells #[.int .i64 0, .slice none 0 0, .int .i64 0] 29))
          (try have HRT := rowI_alloc HRT (.cells #[.int .i64 0, .slice none 0 0, .int .i64 0] 29))
          refine hK.out _ _ (by (try dsimp only); (first | with_reducible exact HC _ HQ | with_reducible exact HC _ HQ.tail)) (fun hHeld => ?_)
          obtain ⟨wn, hwn⟩ : ∃ W, W = wd.alloc (.cells #[.int .i64 0, .slice none 0 0, .int .i64 0] 29) := ⟨_, rfl⟩
          obtain ⟨g, hg⟩ : ∃ k, k = wd.heap.size := ⟨_, rfl⟩
          have HGB := Lib.hid (show Bq ≤ g by rw [hg]; exact HSZ.out)
          have HBW := Lib.hid (HBW.out.alloc HSZ.out (.cells #[.int .i64 0, .slice none 0 0, .int .i64 0] 29))
          have HSZ : Hid (Bq ≤ (wd.alloc (.cells #[.int .i64 0, .slice none 0 0, .int .i64 0] 29)).heap.size) := Lib.hid (by have := HSZ.out; simp; omega)
          rw [← hwn] at HQ HSZ HBW hHeld ⊢
          (try rw [← hwn] at HO)
          (try rw [← hwn] at HRQ)
          (try rw [← hwn] at HRT)
          rw [← hg] at HQ ⊢
          (try rw [← hg] at HNV0)
          (try have HNV := Lib.hid (fun (e : Value.ownBlock _ = some g) => Nat.lt_irrefl _ (HNV0 g e)))
          (try clear HNV0)
          clear hwn hg
          clear hK K
          (try simp only [Act.put, List.setIfInBounds_toArray, List.set_cons_zero, List.set_cons_succ])
          refine wpAnyH_ready (rs := [1]) (by kernel_rfl) (by simp) ?_
          refine AllReadyH.cons (o := { dst := some 35, op := Op.call { callee := Callee.value (Operand.func 27), args := #[Operand.tmp 34], argTypes := #[47] }, type := 25, pos := "exact.go:4950", after := #[{ on := 0, ground := Ground.data }], guard := none }) rfl (fun K hK => ?_) ?_
          · go_simp
            (with_reducible refine (TT2.out _ (HIT.out _ HQ.below)).mono ?_)
            rintro e wd ⟨g2, rfl, _, ho2, hb7⟩
            have HQ := HQ.later hb7
            have HRT := ho2.row
            have HBW := Lib.hid (HBW.out.trans (hb7.mono HSZ.out))
            have HSZ := Lib.hid (Nat.le_trans HSZ.out hb7.size)
            clear ho2 hb7
            (try go_wp2_with fail)
            refine hK.out _ _ (by (try dsimp only); (first | with_reducible exact HC _ HQ | with_reducible exact HC _ HQ.tail)) (fun hHeld => ?_)
            clear hK K
            (try simp only [Act.put, List.setIfInBounds_toArray, List.set_cons_zero, List.set_cons_succ])
            refine wpAnyH_ready (rs := [3]) (by kernel_rfl) (by simp) ?_
            refine AllReadyH.cons (o := { dst := some 37, op := Op.call { callee := Callee.value (Operand.func 24), args := #[Operand.tmp 36], argTypes := #[43] }, type := 29, pos := "exact.go:4950", after := #[{ on := 2, ground := Ground.data }, { on := 1, ground := Ground.chain }], guard := none }) rfl (fun K hK => ?_) ?_
            · go_simp
              (with_reducible refine (TC.out _ (HI.out _ HQ.below)).mono ?_)
              rintro e wd ⟨g6, rfl, _, ho6, hb7⟩
              have HQ := HQ.later hb7
              (try have HRT := HRT.later hb7)
              have HRQ := (RowC.of_own vg_len ho6 rfl : RowC 3 vg wd wd.heap.size (some ⟨g6, 0, none⟩) x1)
              have HBW := Lib.hid (HBW.out.trans (hb7.mono HSZ.out))
              have HSZ := Lib.hid (Nat.le_trans HSZ.out hb7.size)
              clear ho6 hb7
              (try go_wp2_with fail)
              refine hK.out _ _ (by (try dsimp only); (first | with_reducible exact HC _ HQ | with_reducible exact HC _ HQ.tail)) (fun hHeld => ?_)
              clear hK K
              (try simp only [Act.put, List.setIfInBounds_toArray, List.set_cons_zero, List.set_cons_succ])
              refine wpAnyH_ready (rs := [7]) (by kernel_rfl) (by simp) ?_
              refine AllReadyH.cons (o := { dst := some 41, op := Op.call { callee := Callee.value (Operand.func 40), args := #[Operand.tmp 35, Operand.tmp 37, Operand.tmp 38, Operand.tmp 39, Operand.tmp 40], argTypes := #[25, 29, 3, 3, 3] }, type := 32, pos := "exact.go:4950", after := #[{ on := 1, ground := Ground.data }, { on := 3, ground := Ground.data }, { on := 4, ground := Ground.data }, { on := 5, ground := Ground.data }, { on := 6, ground := Ground.data }, { on := 3, ground := Ground.chain }], guard := none }) rfl (fun K hK => ?_) ?_
              · go_simp
                (with_reducible refine (HSV.out _ _ _ HRT HRQ).mono ?_)
                rintro e wd ⟨A6, c6, rfl, ho6, hb7⟩
                (try have HNV : Hid (Value.ownBlock (.slice A6 yy.length c6) ≠ some g) := Lib.hid (fun e => by have h1 := own_block ho6 g e; have h2 := (HQ.box 0).lt; omega))
                have HQ := HQ.later hb7
                have HO := Lib.hid (own_base ho6 HSZ.out)
                have HBW := Lib.hid (HBW.out.trans (hb7.mono HSZ.out))
                have HSZ := Lib.hid (Nat.le_trans HSZ.out hb7.size)
                clear ho6 hb7 HRQ HRT
                (try go_wp2_with fail)
                refine hK.out _ _ (by (try dsimp only); (first | with_reducible exact HC _ HQ | with_reducible exact HC _ HQ.tail)) (fun hHeld => ?_)
                clear hK K
                (try simp only [Act.put, List.setIfInBounds_toArray, List.set_cons_zero, List.set_cons_succ])
                refine wpAnyH_take (i := 8) (oi := { dst := some 33, op := Op.move (Operand.tmp 41), type := 32, pos := "exact.go:4950", after := #[{ on := 7, ground := Ground.data }], guard := none }) (v := ?_) rfl (by kernel_rfl) (by kernel_rfl) (by kernel_rfl) (fun _ _ _ h => h) (Or.inl ⟨by rfl, ?_⟩) (by assumption) ?_
                rotate_left 1
                · (intro w hSw; (try dsimp only at hSw); go_simp <;> with_reducible rfl)
                (try simp only [Act.put, List.setIfInBounds_toArray, List.set_cons_zero, List.set_cons_succ])
                refine wpAnyH_take (i := 9) (oi := { dst := some 42, op := Op.extract (Operand.tmp 33) 0, type := 3, pos := "exact.go:4950", after := #[{ on := 8, ground := Ground.data }], guard := none }) (v := ?_) rfl (by kernel_rfl) (by kernel_rfl) (by kernel_rfl) (fun _ _ _ h => h) (Or.inl ⟨by rfl, ?_⟩) (by assumption) ?_
                rotate_left 1
                · (intro w hSw; (try dsimp only at hSw); go_simp <;> with_reducible rfl)
                (try simp only [Act.put, List.setIfInBounds_toArray, List.set_cons_zero, List.set_cons_succ])
                refine wpAnyH_take (i := 10) (oi := { dst := some 43, op := Op.extract (Operand.tmp 33) 1, type := 29, pos := "exact.go:4950", after := #[{ on := 8, ground := Ground.data }, { on := 12, ground := Ground.gcOnly Departure.lateStores }], guard := none }) (v := ?_) rfl (by kernel_rfl) (by kernel_rfl) (by kernel_rfl) (fun _ _ _ h => h) (Or.inl ⟨by rfl, ?_⟩) (by assumption) ?_
                rotate_left 1
                · (intro w hSw; (try dsimp only at hSw); go_simp <;> with_reducible rfl)
                (try simp only [Act.put, List.setIfInBounds_toArray, List.set_cons_zero, List.set_cons_succ])
                refine wpAnyH_take (i := 12) (oi := { dst := some 12, op := Op.assign (Operand.tmp 42), type := 3, pos := "exact.go:4950", after := #[{ on := 9, ground := Ground.data }, { on := 7, ground := Ground.chain }, { on := 0, ground := Ground.phase }, { on := 1, ground := Ground.phase }, { on := 2, ground := Ground.phase }, { on := 3, ground := Ground.phase }, { on := 4, ground := Ground.phase }, { on := 5, ground := Ground.phase }, { on := 6, ground := Ground.phase }, { on := 7, ground := Ground.phase }, { on := 8, ground := Ground.phase }, { on := 9, ground := Ground.phase }, { on := 10, ground := Ground.textOnly Departure.lateStores }, { on := 11, ground := Ground.phase }], guard := none }) (v := ?_) rfl (by kernel_rfl) (by kernel_rfl) (by kernel_rfl) (fun _ _ _ h => h) (Or.inl ⟨by rfl, ?_⟩) (by assumption) ?_
                rotate_left 1
                · (intro w hSw; (try dsimp only at hSw); go_simp <;> with_reducible rfl)
                (try simp only [Act.put, List.setIfInBounds_toArray, List.set_cons_zero, List.set_cons_succ])
                refine wpAnyH_ready (rs := [13]) (by kernel_rfl) (by simp) ?_
                refine AllReadyH.cons (o := { dst := none, op := Op.store 29 (Operand.tmp 13) (Operand.tmp 43), type := 0, pos := "exact.go:4950", after := #[{ on := 11, ground := Ground.data }, { on := 10, ground := Ground.data }, { on := 12, ground := Ground.chain }, { on := 0, ground := Ground.phase }, { on := 1, ground := Ground.phase }, { on := 2, ground := Ground.phase }, { on := 3, ground := Ground.phase }, { on := 4, ground := Ground.phase }, { on := 5, ground := Ground.phase }, { on := 6, ground := Ground.phase }, { on := 7, ground := Ground.phase }, { on := 8, ground := Ground.phase }, { on := 9, ground := Ground.phase }, { on := 10, ground := Ground.phase }, { on := 11, ground := Ground.phase }, { on := 12, ground := Ground.phase }], guard := none }) rfl (fun K hK => ?_) ?_
                · have c60 := (HQ.box 0).c 0
                  have c61 := (HQ.box 0).c 1
                  have c62 := (HQ.box 0).c 2
                  have f60 := (HQ.box 0).f 0
                  have f61 := (HQ.box 0).f 1
                  have f62 := (HQ.box 0).f 2
                  go_simp
                  clear c60 c61 c62 f60 f61 f62
                  have HQ := ((HQ.put (by have h1 := HGB.out; have h2 := HBQ.out; omega) (fun p hp => by (have h1 := HGB.out; have h2 := HBQ.out; simp only [List.mem_cons, List.not_mem_nil, or_false] at hp; rcases hp with rfl | rfl <;> (show _ ≠ _) <;> omega)) 0 (.int .i64 LL)).put (by have h1 := HGB.out; have h2 := HBQ.out; omega) (fun p hp => by (have h1 := HGB.out; have h2 := HBQ.out; simp only [List.mem_cons, List.not_mem_nil, or_false] at hp; rcases hp with rfl | rfl <;> (show _ ≠ _) <;> omega)) 1 (.slice A6 yy.length c6)).put (by have h1 := HGB.out; have h2 := HBQ.out; omega) (fun p hp => by (have h1 := HGB.out; have h2 := HBQ.out; simp only [List.mem_cons, List.not_mem_nil, or_false] at hp; rcases hp with rfl | rfl <;> (show _ ≠ _) <;> omega)) 2 (.int .i64 KK)
                  have HO := Lib.hid (own_set3W HO.out HNV.out (.int .i64 LL) (.slice A6 yy.length c6) (.int .i64 KK))
                  have HBW := Lib.hid (((HBW.out.setCell (p := ⟨g, 0, none⟩) HGB.out (.int .i64 LL)).setCell (p := ⟨g, 1, none⟩) HGB.out (.slice A6 yy.length c6)).setCell (p := ⟨g, 2, none⟩) HGB.out (.int .i64 KK))
                  refine hK.out _ _ (by (try dsimp only); exact HC _ HQ.tail) (fun hHeld => ?_)
                  clear hK K
                  (try simp only [Act.put, List.setIfInBounds_toArray, List.set_cons_zero, List.set_cons_succ])
                  refine wpAnyH_done (by kernel_rfl) ?_ _
                  clear hHeld
                  go_wp2
                  go_meet
                  exact ⟨rfl, _, A6, c6, rfl, HQ, HO.out, HGB.out, HNV.out, by rw [← HSZ0.out]; exact HBW.out⟩
                exact AllReadyH.nil
              exact AllReadyH.nil
            exact AllReadyH.nil
          exact AllReadyH.nil
        exact AllReadyH.nil
      case rest =>
        clear HC HQ HCC HSZ0
        obtain ⟨rfl, W0, A3, c3, rfl, HT, hown3, hB3, _, _⟩ := hcut
        have HKW := Lib.hid (show k0 < W0 ∧ k1 < W0 ∧ w.heap.size ≤ W0 by have h1 := HBQ.out; omega)
        have R0 : RowC 3 vg wc wc.heap.size A3 yy := RowC.of_own vg_len hown3 rfl
        have hW0l := (HT.box 0).lt
        clear hown3 HBQ hB3
        have m0 := (HT.box 2).c 0
        have m1 := (HT.box 2).c 1
        go_wp2_with fail
        refine (TT2.out _ (HIT.out _ HT.below)).mono ?_
        rintro e w4 ⟨g4, rfl, hge4, ho4, hb4⟩
        have hs4 := hb4.size
        have HT := (HT.later hb4).new #[.int .i64 l0, .slice (some ⟨g4, 0, none⟩) x0.length x0.length] 25
        have hbx : Below w4.heap.size w4 (w4.alloc (.cells #[.int .i64 l0, .slice (some ⟨g4, 0, none⟩) x0.length x0.length] 25)) := by go_grown
        have HTO := ho4.later hbx
        have hg4l : g4 < w4.heap.size := ho4.2
        obtain ⟨BX, hBX⟩ : ∃ B, B = wc.heap.size := ⟨_, rfl⟩
        rw [← hBX] at R0 hs4 hW0l hge4
        have R0 := (R0.below (by rw [hBX]; exact hb4)).alloc (by omega) (.cells #[.int .i64 l0, .slice (some ⟨g4, 0, none⟩) x0.length x0.length] 25)
        clear hb4 ho4 hbx m0 m1 hBX
        go_upto_region 10 with fail
        obtain ⟨wa, hwa⟩ : ∃ W, W = w4.alloc (.cells #[.int .i64 l0, .slice (some ⟨g4, 0, none⟩) x0.length x0.length] 25) := ⟨_, rfl⟩
        obtain ⟨X0, hX0⟩ : ∃ k, k = w4.heap.size := ⟨_, rfl⟩
        have hsza : wa.heap.size = X0 + 1 := by rw [hwa, hX0]; simp
        rw [← hwa] at HT HTO R0 ⊢
        rw [← hX0] at HT hs4 hg4l ⊢
        have HXA := Lib.hid (show BX ≤ X0 ∧ BX ≤ g4 ∧ g4 < X0 ∧ W0 < BX ∧ wa.heap.size = X0 + 1 by omega)
        have HTO := Lib.hid HTO
        have HR := Lib.hid R0
        have m0 := (HT.box 2).c 0
        have m1 := (HT.box 2).c 1
        have m2 := (HT.box 2).c 2
        clear hwa hX0 hs4 hg4l hge4 hW0l hsza R0
        go_wp2_with fail
        refine (TC.out _ (HI.out _ HT.below)).mono ?_
        rintro e w5 ⟨g5, rfl, hge5, ho5, hb5⟩
        have hs5 := hb5.size
        have HT := (HT.later hb5).new #[.int .i64 l1, .slice (some ⟨g5, 0, none⟩) x1.length x1.length, .int .i64 b1] 29
        have hbx : Below w5.heap.size w5 (w5.alloc (.cells #[.int .i64 l1, .slice (some ⟨g5, 0, none⟩) x1.length x1.length, .int .i64 b1] 29)) := by go_grown
        have HX := (RowC.of_own vg_len ho5 rfl : RowC 3 vg w5 w5.heap.size (some ⟨g5, 0, none⟩) x1).later hbx
        have HXO := own_keep' ho5 hbx
        have hg5l := (ho5.lt g5 rfl).2
        have HTO := Lib.hid ((HTO.out.later hb5).later hbx)
        have HR := Lib.hid ((HR.out.below (hb5.mono (by have := HXA.out; omega))).below (hbx.mono (by have := HXA.out; omega)))
        clear hb5 ho5 hbx m0 m1 m2
        go_upto_region 11 with fail
        obtain ⟨wb, hwb⟩ : ∃ W, W = w5.alloc (.cells #[.int .i64 l1, .slice (some ⟨g5, 0, none⟩) x1.length x1.length, .int .i64 b1] 29) := ⟨_, rfl⟩
        obtain ⟨X1, hX1⟩ : ∃ k, k = w5.heap.size := ⟨_, rfl⟩
        have hszb : wb.heap.size = X1 + 1 := by rw [hwb, hX1]; simp
        rw [← hwb] at HT HX HXO HTO HR ⊢
        rw [← hX1] at HT hs5 hg5l ⊢
        have HXF := Lib.hid (show k0 < W0 ∧ k1 < W0 ∧ w.heap.size ≤ W0 ∧ W0 < BX ∧ BX ≤ X0 ∧ BX ≤ g4 ∧ g4 < X0 ∧ X0 < g5 ∧ g5 < X1 ∧ wb.heap.size = X1 + 1 by have h1 := HKW.out; have h2 := HXA.out; omega)
        have HXO := Lib.hid HXO
        have n0 := (HT.box 1).c 0
        have n1 := (HT.box 1).c 1
        have m0 := (HT.box 0).c 0
        have m1 := (HT.box 0).c 1
        have m2 := (HT.box 0).c 2
        obtain ⟨BXO, hBXO⟩ : ∃ b, b = wa.heap.size := ⟨_, rfl⟩
        rw [← hBXO] at HXO
        have HBXO := Lib.hid (show X0 < BXO by have := HXA.out; omega)
        clear hwb hX1 hs5 hg5l hge5 hszb hBXO
        go_wp2_with fail
        refine (HIV.out _ _ _ HTO.out.row HX).mono ?_
        rintro e w6 ⟨A5, c5, rfl, ho6, hb6⟩
        have hs6 := hb6.size
        have HU0 := fun q (e : Value.ownBlock (.slice A5 yy.length c5) = some q) => (ho6.lt q e).2
        have HT := (HT.later hb6).new #[.int .i64 LL, .slice A5 yy.length c5, .int .i64 KK] 29
        have hbx : Below w6.heap.size w6 (w6.alloc (.cells #[.int .i64 LL, .slice A5 yy.length c5, .int .i64 KK] 29)) := by go_grown
        have HO := own_keep' ho6 hbx
        have HX := (HX.later hb6).later hbx
        have HXO := own_keep' (own_keep' HXO.out hb6) hbx
        have HTO := (HTO.out.later hb6).later hbx
        have HR := (HR.out.below (hb6.mono (by have := HXF.out; omega))).below (hbx.mono (by have := HXF.out; omega))
        clear hb6 ho6 hbx n0 n1 m0 m1 m2
        go_upto_region 12 with fail
        obtain ⟨wd0, hwd0⟩ : ∃ W, W = w6.alloc (.cells #[.int .i64 LL, .slice A5 yy.length c5, .int .i64 KK] 29) := ⟨_, rfl⟩
        obtain ⟨G0, hG0⟩ : ∃ k, k = w6.heap.size := ⟨_, rfl⟩
        have hszd : wd0.heap.size = G0 + 1 := by rw [hwd0, hG0]; simp
        rw [← hwd0] at HT HO HX HXO HTO HR ⊢
        rw [← hG0] at HT HU0 hs6 ⊢
        obtain ⟨BG, hBG⟩ : ∃ b, b = wb.heap.size := ⟨_, rfl⟩
        rw [← hBG] at HO hs6
        have HGF := Lib.hid (show BG = X1 + 1 ∧ BG ≤ G0 by have := HXF.out; omega)
        have HU : Hid (Value.ownBlock (.slice A5 yy.length c5) ≠ some G0) := Lib.hid (fun e => Nat.lt_irrefl _ (HU0 G0 e))
        have HO := Lib.hid HO
        have HX := Lib.hid HX
        have HXO := Lib.hid HXO
        have HTO := Lib.hid HTO
        have HR := Lib.hid HR
        have hGl : G0 + 1 ≤ wd0.heap.size := by omega
        clear HU0 hwd0 hG0 hs6 hBG hszd
        have k00 := (HT.box 0).c 0
        have k01 := (HT.box 0).c 1
        have k02 := (HT.box 0).c 2
        have k30 := (HT.box 3).c 0
        have k31 := (HT.box 3).c 1
        have k32 := (HT.box 3).c 2
        go_wp2_with fail
        refine (eqCache_same LL _ _ _ _ yy KK _ (RowC.of_own vg_len HO.out rfl) (HR.out.more (by have h1 := HXF.out; have h2 := HGF.out; omega)) (by have := HLEN.out; omega)).mono ?_
        rintro e w6 ⟨rfl, hb6⟩
        have HT := HT.later hb6
        have HXR := Lib.hid (HX.out.later hb6)
        have HXO := Lib.hid (own_keep' HXO.out hb6)
        have HTO := Lib.hid (HTO.out.later hb6)
        have HR := Lib.hid (HR.out.below (hb6.mono (by have h1 := HXF.out; have h2 := HGF.out; omega)))
        have HO := Lib.hid (own_keep' HO.out hb6)
        have hs6 : G0 + 1 ≤ w6.heap.size := Nat.le_trans hGl hb6.size
        clear k00 k01 k02 k30 k31 k32 hb6 HX hGl
        have HI8 := Lib.hid (fun W (h : Below w6.heap.size w6 W) => HIT.out W (HT.below.trans (h.mono HT.size)))
        have HQ : Held w6 w6 [(X0, [.int .i64 l0, .slice (some ⟨g4, 0, none⟩) x0.length x0.length]), (k0, [.int .i64 l0, .slice a0 x0.length c0])] := ⟨Below.refl _ _, (HT.pick (cs := [(X0, [.int .i64 l0, .slice (some ⟨g4, 0, none⟩) x0.length x0.length]), (k0, [.int .i64 l0, .slice a0 x0.length c0])]) (by simp)).2⟩
        have HCE : ∀ w0 W' : World, Held w0 W' [(X0, [.int .i64 l0, .slice (some ⟨g4, 0, none⟩) x0.length x0.length]), (k0, [.int .i64 l0, .slice a0 x0.length c0])] → (W'.cell? ⟨X0, 0, none⟩ = some (.int .i64 l0) ∧ W'.cell? ⟨X0, 1, none⟩ = some (.slice (some ⟨g4, 0, none⟩) x0.length x0.length) ∧ W'.cell? ⟨k0, 0, none⟩ = some (.int .i64 l0) ∧ W'.cell? ⟨k0, 1, none⟩ = some (.slice a0 x0.length c0)) := fun w0 W' h => ⟨(h.box 0).c 0, (h.box 0).c 1, (h.box 1).c 0, (h.box 1).c 1⟩
        have HXE := HTO.out.row
        go_upto_region 14 with fail
        go_cut [70] (fun z wx => z = .bool false ∧ Below w6.heap.size w6 wx)
        case first =>
          clear HT
          go_region_held3 (fun W' => W'.cell? ⟨X0, 0, none⟩ = some (.int .i64 l0) ∧ W'.cell? ⟨X0, 1, none⟩ = some (.slice (some ⟨g4, 0, none⟩) x0.length x0.length) ∧ W'.cell? ⟨k0, 0, none⟩ = some (.int .i64 l0) ∧ W'.cell? ⟨k0, 1, none⟩ = some (.slice a0 x0.length c0))
            (first | (with_reducible exact HCE _ _ HQ) | (with_reducible exact HCE _ _ HQ.drew))
            (first | (go_at_call 27; (with_reducible refine (TT2.out _ (by first | with_reducible exact (HI8.out _ HQ.below) | with_reducible exact (HI8.out _ HQ.drew.below))).mono ?_); rintro e w1 ⟨g6, rfl, _, ho6, hb1⟩; have hm6 := ho6.row; clear ho6; (first | (have HXE := HXE.later hb1) | (have HXE := (rowT_drew HXE).later hb1)); (first | (have HQ := HQ.later hb1) | (have HQ := HQ.drew.later hb1))) | (go_at_call 30; refine (eqTex_same l0 _ _ _ _ x0 _ (by first | with_reducible exact HXE | with_reducible exact rowT_drew HXE) (by first | with_reducible exact hm6 | with_reducible exact rowT_drew hm6) (by have := HLEN.out; omega)).mono ?_; rintro e w1 ⟨rfl, hb1⟩; (first | (have HQ := HQ.later hb1) | (have HQ := HQ.drew.later hb1))))
          all_goals (go_wp2_with fail; go_meet)
          all_goals (first | with_reducible exact ⟨rfl, HQ.below⟩ | with_reducible exact ⟨rfl, HQ.drew.below⟩)
        case rest =>
          clear HQ HCE HXE HI8
          obtain ⟨rfl, hb7⟩ := hcut
          have HT := HT.later hb7
          have HXR := Lib.hid (HXR.out.later hb7)
          have HXO := Lib.hid (own_keep' HXO.out hb7)
          have HTO := Lib.hid (HTO.out.later hb7)
          have HR := Lib.hid (HR.out.below (hb7.mono (by have h1 := HXF.out; have h2 := HGF.out; omega)))
          have HO := Lib.hid (own_keep' HO.out hb7)
          have hs7 := Nat.le_trans hs6 hb7.size
          clear hb7 hs6
          have HI9 := Lib.hid (fun W (h : Below wc.heap.size wc W) => HI.out W (HT.below.trans (h.mono HT.size)))
          have HQ : Held wc wc [(X1, [.int .i64 l1, .slice (some ⟨g5, 0, none⟩) x1.length x1.length, .int .i64 b1]), (k1, [.int .i64 l1, .slice a1 x1.length c1, .int .i64 b1])] := ⟨Below.refl _ _, (HT.pick (cs := [(X1, [.int .i64 l1, .slice (some ⟨g5, 0, none⟩) x1.length x1.length, .int .i64 b1]), (k1, [.int .i64 l1, .slice a1 x1.length c1, .int .i64 b1])]) (by simp)).2⟩
          have HCE : ∀ w0 W' : World, Held w0 W' [(X1, [.int .i64 l1, .slice (some ⟨g5, 0, none⟩) x1.length x1.length, .int .i64 b1]), (k1, [.int .i64 l1, .slice a1 x1.length c1, .int .i64 b1])] → (W'.cell? ⟨X1, 0, none⟩ = some (.int .i64 l1) ∧ W'.cell? ⟨X1, 1, none⟩ = some (.slice (some ⟨g5, 0, none⟩) x1.length x1.length) ∧ W'.cell? ⟨X1, 2, none⟩ = some (.int .i64 b1) ∧ W'.cell? ⟨k1, 0, none⟩ = some (.int .i64 l1) ∧ W'.cell? ⟨k1, 1, none⟩ = some (.slice a1 x1.length c1) ∧ W'.cell? ⟨k1, 2, none⟩ = some (.int .i64 b1)) := fun w0 W' h => ⟨(h.box 0).c 0, (h.box 0).c 1, (h.box 0).c 2, (h.box 1).c 0, (h.box 1).c 1, (h.box 1).c 2⟩
          have HXE := HXR.out
          go_upto_region 16 with fail
          go_cut [75] (fun z wx => z = .bool false ∧ Below wc.heap.size wc wx)
          case first =>
            clear HT
            go_region_held3 (fun W' => W'.cell? ⟨X1, 0, none⟩ = some (.int .i64 l1) ∧ W'.cell? ⟨X1, 1, none⟩ = some (.slice (some ⟨g5, 0, none⟩) x1.length x1.length) ∧ W'.cell? ⟨X1, 2, none⟩ = some (.int .i64 b1) ∧ W'.cell? ⟨k1, 0, none⟩ = some (.int .i64 l1) ∧ W'.cell? ⟨k1, 1, none⟩ = some (.slice a1 x1.length c1) ∧ W'.cell? ⟨k1, 2, none⟩ = some (.int .i64 b1))
              (first | (with_reducible exact HCE _ _ HQ) | (with_reducible exact HCE _ _ HQ.drew))
              (first | (go_at_call 24; (with_reducible refine (TC.out _ (by first | with_reducible exact (HI9.out _ HQ.below) | with_reducible exact (HI9.out _ HQ.drew.below))).mono ?_); rintro e w1 ⟨g6, rfl, _, ho6, hb1⟩; have hm6 := (RowC.of_own vg_len ho6 rfl : RowC 3 vg w1 w1.heap.size (some ⟨g6, 0, none⟩) x1); clear ho6; (first | (have HXE := HXE.later hb1) | (have HXE := (rowC_drew HXE).later hb1)); (first | (have HQ := HQ.later hb1) | (have HQ := HQ.drew.later hb1))) | (go_at_call 19; refine (eqCache_same l1 _ _ _ _ x1 b1 _ (by first | with_reducible exact HXE | with_reducible exact rowC_drew HXE) (by first | with_reducible exact hm6 | with_reducible exact rowC_drew hm6) (by have := HLEN.out; omega)).mono ?_; rintro e w1 ⟨rfl, hb1⟩; (first | (have HQ := HQ.later hb1) | (have HQ := HQ.drew.later hb1))))
            all_goals (go_wp2_with fail; go_meet)
            all_goals (first | with_reducible exact ⟨rfl, HQ.below⟩ | with_reducible exact ⟨rfl, HQ.drew.below⟩)
          case rest =>
            clear HQ HCE HXE HI9
            obtain ⟨rfl, hb7⟩ := hcut
            have HT := HT.later hb7
            have HXO := Lib.hid (own_keep' HXO.out hb7)
            have HTO := HTO.out.later hb7
            have HR := Lib.hid (HR.out.below (hb7.mono (by have h1 := HXF.out; have h2 := HGF.out; omega)))
            have HO := Lib.hid (own_keep' HO.out hb7)
            have hs7 := Nat.le_trans hs7 hb7.size
            clear hb7 HXR
            have k20 := (HT.box 2).c 0
            have k21 := (HT.box 2).c 1
            have hkk := markTex_own l0 g4 x0.length 1 x0 _ HTO (by have := HLEN.out; omega)
            obtain ⟨kk, hk⟩ : ∃ kk : Nat, kk = 1 + x0.length := ⟨_, rfl⟩
            rw [← hk] at hkk
            have hk2 : kk ≤ 1048577 := by have := HLEN.out; omega
            clear hk
            go_wp2_with fail
            refine hkk.mono ?_
            rintro e w8 ⟨rfl, hg8⟩
            have HT := HT.grownX hg8 (fun q e => by injection e with e; have := HXF.out; omega) (fun p hp e => by have h3 := HXF.out; have h4 := HGF.out; simp only [List.mem_cons, List.not_mem_nil, or_false] at hp; rcases hp with rfl | rfl | rfl | rfl | rfl | rfl <;> (injection e with e; dsimp only at e; omega))
            have HR := Lib.hid (HR.out.keep fun p hp => World.cell?_of_block (hg8.block p.block (by have h1 := HXF.out; have h2 := HGF.out; omega) (fun e => by injection e with e; have := HXF.out; omega)))
            have HO := Lib.hid (own_keep HO.out hg8 (by have h1 := HXF.out; have h2 := HGF.out; omega))
            have HXO := Lib.hid (own_keep HXO.out hg8 (by have h1 := HXF.out; have h2 := HBXO.out; omega))
            have hs8 := Nat.le_trans hs7 hg8.size
            clear k20 k21 hg8 hkk hs7 HTO
            have k10 := (HT.box 1).c 0
            have k11 := (HT.box 1).c 1
            have k12 := (HT.box 1).c 2
            have hjj := markCache_own l1 (some ⟨g5, 0, none⟩) x1.length x1 b1 BXO kk _ HXO.out (by have := HLEN.out; omega)
            obtain ⟨jj, hj⟩ : ∃ jj : Nat, jj = kk + 3 * x1.length := ⟨_, rfl⟩
            rw [← hj] at hjj
            have hj2 : jj ≤ 6291457 := by have := HLEN.out; omega
            clear hj
            go_wp2_with fail
            refine hjj.mono ?_
            rintro e w8 ⟨rfl, _, hg8⟩
            have hg8 : World.grownBy _ w8 (some g5) := hg8
            have hkd : ¬ ((jj : Nat) : Int) < 0 := by omega
            have hkd2 : decide (((jj : Nat) : Int) < 0) = false := by simp
            have HT := HT.grownX hg8 (fun q e => by injection e with e; have := HXF.out; omega) (fun p hp e => by have h3 := HXF.out; have h4 := HGF.out; simp only [List.mem_cons, List.not_mem_nil, or_false] at hp; rcases hp with rfl | rfl | rfl | rfl | rfl | rfl <;> (injection e with e; dsimp only at e; omega))
            have HR := Lib.hid (HR.out.keep fun p hp => World.cell?_of_block (hg8.block p.block (by have h1 := HXF.out; have h2 := HGF.out; omega) (fun e => by injection e with e; have := HXF.out; omega)))
            have HO := Lib.hid (own_keep HO.out hg8 (by have h1 := HXF.out; have h2 := HGF.out; omega))
            have hs8 := Nat.le_trans hs8 hg8.size
            clear k10 k11 k12 hg8 hjj HXO
            have k00 := (HT.box 0).c 0
            have k01 := (HT.box 0).c 1
            have k02 := (HT.box 0).c 2
            have k30 := (HT.box 3).c 0
            have k31 := (HT.box 3).c 1
            have k32 := (HT.box 3).c 2
            go_wp2_with fail
            refine (eqCache_same LL _ _ _ _ yy KK _ (RowC.of_own vg_len HO.out rfl) (HR.out.more (by have h1 := HXF.out; have h2 := HGF.out; omega)) (by have := HLEN.out; omega)).mono ?_
            rintro e w9 ⟨rfl, hb9⟩
            have HT := HT.later hb9
            have HR := Lib.hid (HR.out.below (hb9.mono (by have h1 := HXF.out; have h2 := HGF.out; omega)))
            have HO := Lib.hid (own_keep' HO.out hb9)
            have hs9 := Nat.le_trans hs8 hb9.size
            clear k00 k01 k02 k30 k31 k32 hb9 hs8
            have hbg : BX ≤ BG ∧ BX ≤ X0 ∧ BG ≤ G0 ∧ w.heap.size ≤ BG := by have h1 := HXF.out; have h2 := HGF.out; omega
            have k00 := (HT.box 0).c 0
            have k01 := (HT.box 0).c 1
            have k02 := (HT.box 0).c 2
            have hmm := markCache_own LL A5 c5 yy KK BG 1 _ HO.out (by have := HLEN.out; omega)
            obtain ⟨mm, hm⟩ : ∃ mm : Nat, mm = 1 + 3 * yy.length := ⟨_, rfl⟩
            rw [← hm] at hmm
            go_wp2_with fail
            refine hmm.mono ?_
            rintro e w10 ⟨rfl, ho10, hg10⟩
            have HT := HT.grownX hg10 (fun q e => by have h1 := own_block HO.out q e; omega) (fun p hp e => by have h2 := own_block HO.out p.1 e.symm; have h3 := HXF.out; have h4 := HGF.out; simp only [List.mem_cons, List.not_mem_nil, or_false] at hp; rcases hp with rfl | rfl | rfl | rfl | rfl | rfl; (first | exact HU.out e.symm | skip); all_goals (dsimp only at h2; omega))
            have HR := Lib.hid (HR.out.keep fun p hp => World.cell?_of_block (hg10.block p.block (by omega) (fun e => by have h1 := own_block HO.out p.block e.symm; omega)))
            have HM : Hid (RowC 3 vg w10 w10.heap.size A5 (mrkT 1 yy.length)) := Lib.hid (RowC.of_own vg_len ho10 (mrkT_len _ _))
            have hs10 := Nat.le_trans hs9 hg10.size
            clear k00 k01 k02 hg10 hmm hs9 HO ho10 HU
            have k00 := (HT.box 0).c 0
            have k01 := (HT.box 0).c 1
            have k02 := (HT.box 0).c 2
            have hmd : ¬ ((mm : Nat) : Int) < 0 := by omega
            have hm2 : mm ≤ 6291457 := by have := HLEN.out; omega
            have HHE : ∀ W, RowC 3 vg W W.heap.size A5 (mrkT 1 yy.length) → Calls Try.prog 21 #[cav LL A5 yy.length c5 KK, .int .i64 1] W fun e w' => e = .returned (.int .i64 (mm : Int)) ∧ Below W.heap.size W w' := fun W h => by
              have h := heldCache_any LL A5 c5 1 yy.length KK W h (by have := HLEN.out; omega)
              rw [← hm] at h
              exact h
            clear hm
            go_wp2_with fail
            refine (HHE _ HM.out).mono ?_
            rintro e w11 ⟨rfl, hb11⟩
            have HT := HT.later hb11
            have HR := Lib.hid (HR.out.below (hb11.mono (by omega)))
            have HM := Lib.hid (HM.out.later hb11)
            have hs11 := Nat.le_trans hs10 hb11.size
            clear k00 k01 k02 hb11 hs10
            obtain ⟨Bq, hBq⟩ : ∃ B, B = w11.heap.size := ⟨_, rfl⟩
            have HCC : Hid (∀ W', Held w W' [(G0, [.int .i64 LL, .slice A5 yy.length c5, .int .i64 KK]), (X1, [.int .i64 l1, .slice (some ⟨g5, 0, none⟩) x1.length x1.length, .int .i64 b1]), (X0, [.int .i64 l0, .slice (some ⟨g4, 0, none⟩) x0.length x0.length]), (W0, [.int .i64 LL, .slice A3 yy.length c3, .int .i64 KK]), (k1, [.int .i64 l1, .slice a1 x1.length c1, .int .i64 b1]), (k0, [.int .i64 l0, .slice a0 x0.length c0])] → (W'.cell? ⟨k0, 0, none⟩ = some (.int .i64 l0) ∧ W'.cell? ⟨k0, 1, none⟩ = some (.slice a0 x0.length c0) ∧ W'.cell? ⟨k1, 0, none⟩ = some (.int .i64 l1) ∧ W'.cell? ⟨k1, 1, none⟩ = some (.slice a1 x1.length c1) ∧ W'.cell? ⟨k1, 2, none⟩ = some (.int .i64 b1))) := Lib.hid (fun W' h => ⟨(h.box 5).c 0, (h.box 5).c 1, (h.box 4).c 0, (h.box 4).c 1, (h.box 4).c 2⟩)
            have HBQ := Lib.hid (show k0 < Bq ∧ k1 < Bq ∧ W0 < Bq ∧ X0 < Bq ∧ X1 < Bq ∧ G0 < Bq ∧ w.heap.size ≤ Bq by have h1 := (HT.box 5).lt; have h2 := (HT.box 4).lt; have h4 := (HT.box 3).lt; have h5 := (HT.box 2).lt; have h6 := (HT.box 1).lt; have h7 := (HT.box 0).lt; have h3 := HT.size; omega)
            have HSZ0 := Lib.hid hBq
            have HC : ∀ W', Held w W' [(G0, [.int .i64 LL, .slice A5 yy.length c5, .int .i64 KK]), (X1, [.int .i64 l1, .slice (some ⟨g5, 0, none⟩) x1.length x1.length, .int .i64 b1]), (X0, [.int .i64 l0, .slice (some ⟨g4, 0, none⟩) x0.length x0.length]), (W0, [.int .i64 LL, .slice A3 yy.length c3, .int .i64 KK]), (k1, [.int .i64 l1, .slice a1 x1.length c1, .int .i64 b1]), (k0, [.int .i64 l0, .slice a0 x0.length c0])] → (W'.cell? ⟨k0, 0, none⟩ = some (.int .i64 l0) ∧ W'.cell? ⟨k0, 1, none⟩ = some (.slice a0 x0.length c0) ∧ W'.cell? ⟨k1, 0, none⟩ = some (.int .i64 l1) ∧ W'.cell? ⟨k1, 1, none⟩ = some (.slice a1 x1.length c1) ∧ W'.cell? ⟨k1, 2, none⟩ = some (.int .i64 b1)) := fun W' h => HCC.out W' h
            have HQ := HT
            clear hBq
            go_upto_region 31 with fail
            go_cut [21, 22] (fun val yv wx => val = .int .i64 VV ∧ ∃ g A6 c6, yv = .pointer (some ⟨g, 0, none⟩) ∧ Held w wx ((g, [.int .i64 LL, .slice A6 yy.length c6, .int .i64 KK]) :: [(G0, [.int .i64 LL, .slice A5 yy.length c5, .int .i64 KK]), (X1, [.int .i64 l1, .slice (some ⟨g5, 0, none⟩) x1.length x1.length, .int .i64 b1]), (X0, [.int .i64 l0, .slice (some ⟨g4, 0, none⟩) x0.length x0.length]), (W0, [.int .i64 LL, .slice A3 yy.length c3, .int .i64 KK]), (k1, [.int .i64 l1, .slice a1 x1.length c1, .int .i64 b1]), (k0, [.int .i64 l0, .slice a0 x0.length c0])]) ∧ wx.ownsRow Bq 50 3 (.slice A6 yy.length c6) yy.length (yy.flatMap vg) ∧ Bq ≤ g ∧ (Value.slice A6 yy.length c6).ownBlock ≠ some g ∧ Below w11.heap.size w11 wx)
            case first =>
              have HQ := HQ.drew
              (try have HRQ := rowC_drew HRQ)
              refine wp_region_held_drew (S := fun W' => W'.cell? ⟨k0, 0, none⟩ = some (.int .i64 l0) ∧ W'.cell? ⟨k0, 1, none⟩ = some (.slice a0 x0.length c0) ∧ W'.cell? ⟨k1, 0, none⟩ = some (.int .i64 l1) ∧ W'.cell? ⟨k1, 1, none⟩ = some (.slice a1 x1.length c1) ∧ W'.cell? ⟨k1, 2, none⟩ = some (.int .i64 b1)) (by kernel_rfl) (HC _ HQ) (fun hHeld => ?_)
              obtain ⟨wd, hwd⟩ : ∃ x, x = w11.drew := ⟨_, rfl⟩
              have HSZ : Hid (Bq ≤ wd.heap.size) := Lib.hid (by rw [hwd, HSZ0.out]; exact Nat.le_refl _)
              have HBW : Hid (Below Bq w11 wd) := Lib.hid (by rw [hwd]; exact (Below.refl _ _).drew)
              rw [← hwd] at HQ hHeld ⊢
              (try rw [← hwd] at HRQ)
              clear hwd
              refine wpAnyH_take (i := 0) (oi := { dst := some 107, op := Op.load 47 (Operand.tmp 5), type := 47, pos := "exact.go:4979", after := #[], guard := none }) (v := ?_) rfl (by kernel_rfl) (by kernel_rfl) (by kernel_rfl) (fun _ _ _ h => h) (Or.inl ⟨by rfl, ?_⟩) (by assumption) ?_
              rotate_left 1
              · (intro w hSw; (try dsimp only at hSw); go_simp <;> with_reducible rfl)
              (try simp only [Act.put, List.setIfInBounds_toArray, List.set_cons_zero, List.set_cons_succ])
              refine wpAnyH_take (i := 2) (oi := { dst := some 109, op := Op.load 43 (Operand.tmp 6), type := 43, pos := "exact.go:4979", after := #[], guard := none }) (v := ?_) rfl (by kernel_rfl) (by kernel_rfl) (by kernel_rfl) (fun _ _ _ h => h) (Or.inl ⟨by rfl, ?_⟩) (by assumption) ?_
              rotate_left 1
              · (intro w hSw; (try dsimp only at hSw); go_simp <;> with_reducible rfl)
              (try simp only [Act.put, List.setIfInBounds_toArray, List.set_cons_zero, List.set_cons_succ])
              refine wpAnyH_take (i := 4) (oi := { dst := some 111, op := Op.move (Operand.tmp 2), type := 3, pos := "exact.go:4979", after := #[], guard := none }) (v := ?_) rfl (by kernel_rfl) (by kernel_rfl) (by kernel_rfl) (fun _ _ _ h => h) (Or.inl ⟨by rfl, ?_⟩) (by assumption) ?_
              rotate_left 1
              · (intro w hSw; (try dsimp only at hSw); go_simp <;> with_reducible rfl)
              (try simp only [Act.put, List.setIfInBounds_toArray, List.set_cons_zero, List.set_cons_succ])
              refine wpAnyH_take (i := 5) (oi := { dst := some 112, op := Op.move (Operand.tmp 3), type := 3, pos := "exact.go:4979", after := #[], guard := none }) (v := ?_) rfl (by kernel_rfl) (by kernel_rfl) (by kernel_rfl) (fun _ _ _ h => h) (Or.inl ⟨by rfl, ?_⟩) (by assumption) ?_
              rotate_left 1
              · (intro w hSw; (try dsimp only at hSw); go_simp <;> with_reducible rfl)
              (try simp only [Act.put, List.setIfInBounds_toArray, List.set_cons_zero, List.set_cons_succ])
              refine wpAnyH_take (i := 6) (oi := { dst := some 113, op := Op.move (Operand.tmp 4), type := 3, pos := "exact.go:4979", after := #[], guard := none }) (v := ?_) rfl (by kernel_rfl) (by kernel_rfl) (by kernel_rfl) (fun _ _ _ h => h) (Or.inl ⟨by rfl, ?_⟩) (by assumption) ?_
              rotate_left 1
              · (intro w hSw; (try dsimp only at hSw); go_simp <;> with_reducible rfl)
              (try simp only [Act.put, List.setIfInBounds_toArray, List.set_cons_zero, List.set_cons_succ])
              refine wpAnyH_ready (rs := [1, 11]) (by kernel_rfl) (by simp) ?_
              refine AllReadyH.cons (o := { dst := some 108, op := Op.call { callee := Callee.value (Operand.func 27), args := #[Operand.tmp 107], argTypes := #[47] }, type := 25, pos := "exact.go:4979", after := #[{ on := 0, ground := Ground.data }], guard := none }) rfl (fun K hK => ?_) ?_
              · go_simp
                (with_reducible refine (TT2.out _ (HIT.out _ HQ.below)).mono ?_)
                rintro e wd ⟨g2, rfl, _, ho2, hb7⟩
                have HQ := HQ.later hb7
                have HRT := ho2.row
                have HBW := Lib.hid (HBW.out.trans (hb7.mono HSZ.out))
                have HSZ := Lib.hid (Nat.le_trans HSZ.out hb7.size)
                clear ho2 hb7
                (try go_wp2_with fail)
                refine hK.out _ _ (by (try dsimp only); (first | with_reducible exact HC _ HQ | with_reducible exact HC _ HQ.tail)) (fun hHeld => ?_)
                clear hK K
                (try simp only [Act.put, List.setIfInBounds_toArray, List.set_cons_zero, List.set_cons_succ])
                refine wpAnyH_ready (rs := [3, 11]) (by kernel_rfl) (by simp) ?_
                refine AllReadyH.cons (o := { dst := some 110, op := Op.call { callee := Callee.value (Operand.func 24), args := #[Operand.tmp 109], argTypes := #[43] }, type := 29, pos := "exact.go:4979", after := #[{ on := 2, ground := Ground.data }, { on := 1, ground := Ground.chain }], guard := none }) rfl (fun K hK => ?_) ?_
                · go_simp
                  (with_reducible refine (TC.out _ (HI.out _ HQ.below)).mono ?_)
                  rintro e wd ⟨g6, rfl, _, ho6, hb7⟩
                  have HQ := HQ.later hb7
                  (try have HRT := HRT.later hb7)
                  have HRQ := (RowC.of_own vg_len ho6 rfl : RowC 3 vg wd wd.heap.size (some ⟨g6, 0, none⟩) x1)
                  have HBW := Lib.hid (HBW.out.trans (hb7.mono HSZ.out))
                  have HSZ := Lib.hid (Nat.le_trans HSZ.out hb7.size)
                  clear ho6 hb7
                  (try go_wp2_with fail)
                  refine hK.out _ _ (by (try dsimp only); (first | with_reducible exact HC _ HQ | with_reducible exact HC _ HQ.tail)) (fun hHeld => ?_)
                  clear hK K
                  (try simp only [Act.put, List.setIfInBounds_toArray, List.set_cons_zero, List.set_cons_succ])
                  refine wpAnyH_ready (rs := [7, 11]) (by kernel_rfl) (by simp) ?_
                  refine AllReadyH.cons (o := { dst := some 114, op := Op.call { callee := Callee.value (Operand.func 14), args := #[Operand.tmp 108, Operand.tmp 110, Operand.tmp 111, Operand.tmp 112, Operand.tmp 113], argTypes := #[25, 29, 3, 3, 3] }, type := 32, pos := "exact.go:4979", after := #[{ on := 1, ground := Ground.data }, { on := 3, ground := Ground.data }, { on := 4, ground := Ground.data }, { on := 5, ground := Ground.data }, { on := 6, ground := Ground.data }, { on := 3, ground := Ground.chain }], guard := none }) rfl (fun K hK => ?_) ?_
                  · go_simp
                    (with_reducible refine (HIV.out _ _ _ HRT HRQ).mono ?_)
                    rintro e wd ⟨A6, c6, rfl, ho6, hb7⟩
                    (try have HNV : Hid (Value.ownBlock (.slice A6 yy.length c6) ≠ some g) := Lib.hid (fun e => by have h1 := own_block ho6 g e; have h2 := (HQ.box 0).lt; omega))
                    have HQ := HQ.later hb7
                    have HO := Lib.hid (own_base ho6 HSZ.out)
                    have HBW := Lib.hid (HBW.out.trans (hb7.mono HSZ.out))
                    have HSZ := Lib.hid (Nat.le_trans HSZ.out hb7.size)
                    clear ho6 hb7 HRQ HRT
                    (try go_wp2_with fail)
                    refine hK.out _ _ (by (try dsimp only); (first | with_reducible exact HC _ HQ | with_reducible exact HC _ HQ.tail)) (fun hHeld => ?_)
                    clear hK K
                    (try simp only [Act.put, List.setIfInBounds_toArray, List.set_cons_zero, List.set_cons_succ])
                    refine wpAnyH_take (i := 8) (oi := { dst := some 106, op := Op.move (Operand.tmp 114), type := 32, pos := "exact.go:4979", after := #[{ on := 7, ground := Ground.data }], guard := none }) (v := ?_) rfl (by kernel_rfl) (by kernel_rfl) (by kernel_rfl) (fun _ _ _ h => h) (Or.inl ⟨by rfl, ?_⟩) (by assumption) ?_
                    rotate_left 1
                    · (intro w hSw; (try dsimp only at hSw); go_simp <;> with_reducible rfl)
                    (try simp only [Act.put, List.setIfInBounds_toArray, List.set_cons_zero, List.set_cons_succ])
                    refine wpAnyH_take (i := 9) (oi := { dst := some 115, op := Op.extract (Operand.tmp 106) 0, type := 3, pos := "exact.go:4979", after := #[{ on := 8, ground := Ground.data }], guard := none }) (v := ?_) rfl (by kernel_rfl) (by kernel_rfl) (by kernel_rfl) (fun _ _ _ h => h) (Or.inl ⟨by rfl, ?_⟩) (by assumption) ?_
                    rotate_left 1
                    · (intro w hSw; (try dsimp only at hSw); go_simp <;> with_reducible rfl)
                    (try simp only [Act.put, List.setIfInBounds_toArray, List.set_cons_zero, List.set_cons_succ])
                    refine wpAnyH_take (i := 10) (oi := { dst := some 116, op := Op.extract (Operand.tmp 106) 1, type := 29, pos := "exact.go:4979", after := #[{ on := 8, ground := Ground.data }, { on := 12, ground := Ground.gcOnly Departure.lateStores }], guard := none }) (v := ?_) rfl (by kernel_rfl) (by kernel_rfl) (by kernel_rfl) (fun _ _ _ h => h) (Or.inl ⟨by rfl, ?_⟩) (by assumption) ?_
                    rotate_left 1
                    · (intro w hSw; (try dsimp only at hSw); go_simp <;> with_reducible rfl)
                    (try simp only [Act.put, List.setIfInBounds_toArray, List.set_cons_zero, List.set_cons_succ])
                    refine wpAnyH_ready (rs := [11]) (by kernel_rfl) (by simp) ?_
                    refine AllReadyH.cons (o := { dst := some 22, op := Op.alloc 29, type := 0, pos := "exact.go:4979", after := #[], guard := none }) rfl (fun K hK => ?_) ?_
                    · go_simp
                      (try have HNV0 := fun q (e : Value.ownBlock _ = some q) => (HO.out.lt q e).2)
                      have HQ := HQ.new #[.int .i64 0, .slice none 0 0, .int .i64 0] 29
                      (try have HO := Lib.hid (HO.out.alloc (.cells #[.int .i64 0, .slice none 0 0, .int .i64 0] 29)))
                      (try have HRQ := rowC_alloc HRQ (.cells #[.int .i64 0, .slice none 0 0, .int .i64 0] 29))
                      (try have HRT := rowI_alloc HRT (.cells #[.int .i64 0, .slice none 0 0, .int .i64 0] 29))
                      refine hK.out _ _ (by (try dsimp only); (first | with_reducible exact HC _ HQ | with_reducible exact HC _ HQ.tail)) (fun hHeld => ?_)
                      obtain ⟨wn, hwn⟩ : ∃ W, W = wd.alloc (.cells #[.int .i64 0, .slice none 0 0, .int .i64 0] 29) := ⟨_, rfl⟩
                      obtain ⟨g, hg⟩ : ∃ k, k = wd.heap.size := ⟨_, rfl⟩
                      have HGB := Lib.hid (show Bq ≤ g by rw [hg]; exact HSZ.out)
                      have HBW := Lib.hid (HBW.out.alloc HSZ.out (.cells #[.int .i64 0, .slice none 0 0, .int .i64 0] 29))
                      have HSZ : Hid (Bq ≤ (wd.alloc (.cells #[.int .i64 0, .slice none 0 0, .int .i64 0] 29)).heap.size) := Lib.hid (by have := HSZ.out; simp; omega)
                      rw [← hwn] at HQ HSZ HBW hHeld ⊢
                      (try rw [← hwn] at HO)
                      (try rw [← hwn] at HRQ)
                      (try rw [← hwn] at HRT)
                      rw [← hg] at HQ ⊢
                      (try rw [← hg] at HNV0)
                      (try have HNV := Lib.hid (fun (e : Value.ownBlock _ = some g) => Nat.lt_irrefl _ (HNV0 g e)))
                      (try clear HNV0)
                      clear hwn hg
                      clear hK K
                      (try simp only [Act.put, List.setIfInBounds_toArray, List.set_cons_zero, List.set_cons_succ])
                      refine wpAnyH_take (i := 12) (oi := { dst := some 21, op := Op.assign (Operand.tmp 115), type := 3, pos := "exact.go:4979", after := #[{ on := 9, ground := Ground.data }, { on := 7, ground := Ground.chain }, { on := 0, ground := Ground.phase }, { on := 1, ground := Ground.phase }, { on := 2, ground := Ground.phase }, { on := 3, ground := Ground.phase }, { on := 4, ground := Ground.phase }, { on := 5, ground := Ground.phase }, { on := 6, ground := Ground.phase }, { on := 7, ground := Ground.phase }, { on := 8, ground := Ground.phase }, { on := 9, ground := Ground.phase }, { on := 10, ground := Ground.textOnly Departure.lateStores }, { on := 11, ground := Ground.phase }], guard := none }) (v := ?_) rfl (by kernel_rfl) (by kernel_rfl) (by kernel_rfl) (fun _ _ _ h => h) (Or.inl ⟨by rfl, ?_⟩) (by assumption) ?_
                      rotate_left 1
                      · (intro w hSw; (try dsimp only at hSw); go_simp <;> with_reducible rfl)
                      (try simp only [Act.put, List.setIfInBounds_toArray, List.set_cons_zero, List.set_cons_succ])
                      refine wpAnyH_ready (rs := [13]) (by kernel_rfl) (by simp) ?_
                      refine AllReadyH.cons (o := { dst := none, op := Op.store 29 (Operand.tmp 22) (Operand.tmp 116), type := 0, pos := "exact.go:4979", after := #[{ on := 11, ground := Ground.data }, { on := 10, ground := Ground.data }, { on := 12, ground := Ground.chain }, { on := 0, ground := Ground.phase }, { on := 1, ground := Ground.phase }, { on := 2, ground := Ground.phase }, { on := 3, ground := Ground.phase }, { on := 4, ground := Ground.phase }, { on := 5, ground := Ground.phase }, { on := 6, ground := Ground.phase }, { on := 7, ground := Ground.phase }, { on := 8, ground := Ground.phase }, { on := 9, ground := Ground.phase }, { on := 10, ground := Ground.phase }, { on := 11, ground := Ground.phase }, { on := 12, ground := Ground.phase }], guard := none }) rfl (fun K hK => ?_) ?_
                      · have c60 := (HQ.box 0).c 0
                        have c61 := (HQ.box 0).c 1
                        have c62 := (HQ.box 0).c 2
                        have f60 := (HQ.box 0).f 0
                        have f61 := (HQ.box 0).f 1
                        have f62 := (HQ.box 0).f 2
                        go_simp
                        clear c60 c61 c62 f60 f61 f62
                        have HQ := ((HQ.put (by have h1 := HGB.out; have h2 := HBQ.out; omega) (fun p hp => by (have h1 := HGB.out; have h2 := HBQ.out; simp only [List.mem_cons, List.not_mem_nil, or_false] at hp; rcases hp with rfl | rfl | rfl | rfl | rfl | rfl <;> (show _ ≠ _) <;> omega)) 0 (.int .i64 LL)).put (by have h1 := HGB.out; have h2 := HBQ.out; omega) (fun p hp => by (have h1 := HGB.out; have h2 := HBQ.out; simp only [List.mem_cons, List.not_mem_nil, or_false] at hp; rcases hp with rfl | rfl | rfl | rfl | rfl | rfl <;> (show _ ≠ _) <;> omega)) 1 (.slice A6 yy.length c6)).put (by have h1 := HGB.out; have h2 := HBQ.out; omega) (fun p hp => by (have h1 := HGB.out; have h2 := HBQ.out; simp only [List.mem_cons, List.not_mem_nil, or_false] at hp; rcases hp with rfl | rfl | rfl | rfl | rfl | rfl <;> (show _ ≠ _) <;> omega)) 2 (.int .i64 KK)
                        have HO := Lib.hid (own_set3W HO.out HNV.out (.int .i64 LL) (.slice A6 yy.length c6) (.int .i64 KK))
                        have HBW := Lib.hid (((HBW.out.setCell (p := ⟨g, 0, none⟩) HGB.out (.int .i64 LL)).setCell (p := ⟨g, 1, none⟩) HGB.out (.slice A6 yy.length c6)).setCell (p := ⟨g, 2, none⟩) HGB.out (.int .i64 KK))
                        refine hK.out _ _ (by (try dsimp only); exact HC _ HQ.tail) (fun hHeld => ?_)
                        clear hK K
                        (try simp only [Act.put, List.setIfInBounds_toArray, List.set_cons_zero, List.set_cons_succ])
                        refine wpAnyH_done (by kernel_rfl) ?_ _
                        clear hHeld
                        go_wp2
                        go_meet
                        exact ⟨rfl, _, A6, c6, rfl, HQ, HO.out, HGB.out, HNV.out, by rw [← HSZ0.out]; exact HBW.out⟩
                      exact AllReadyH.nil
                    exact AllReadyH.nil
                  refine AllReadyH.cons (o := { dst := some 22, op := Op.alloc 29, type := 0, pos := "exact.go:4979", after := #[], guard := none }) rfl (fun K hK => ?_) ?_
                  · go_simp
                    (try have HNV0 := fun q (e : Value.ownBlock _ = some q) => (HO.out.lt q e).2)
                    have HQ := HQ.new #[.int .i64 0, .slice none 0 0, .int .i64 0] 29
                    (try have HO := Lib.hid (HO.out.alloc (.cells #[.int .i64 0, .slice none 0 0, .int .i64 0] 29)))
                    (try have HRQ := rowC_alloc HRQ (.cells #[.int .i64 0, .slice none 0 0, .int .i64 0] 29))
                    (try have HRT := rowI_alloc HRT (.cells #[.int .i64 0, .slice none 0 0, .int .i64 0] 29))
                    refine hK.out _ _ (by (try dsimp only); (first | with_reducible exact HC _ HQ | with_reducible exact HC _ HQ.tail)) (fun hHeld => ?_)
                    obtain ⟨wn, hwn⟩ : ∃ W, W = wd.alloc (.cells #[.int .i64 0, .slice none 0 0, .int .i64 0] 29) := ⟨_, rfl⟩
                    obtain ⟨g, hg⟩ : ∃ k, k = wd.heap.size := ⟨_, rfl⟩
                    have HGB := Lib.hid (show Bq ≤ g by rw [hg]; exact HSZ.out)
                    have HBW := Lib.hid (HBW.out.alloc HSZ.out (.cells #[.int .i64 0, .slice none 0 0, .int .i64 0] 29))
                    have HSZ : Hid (Bq ≤ (wd.alloc (.cells #[.int .i64 0, .slice none 0 0, .int .i64 0] 29)).heap.size) := Lib.hid (by have := HSZ.out; simp; omega)
                    rw [← hwn] at HQ HSZ HBW hHeld ⊢
                    (try rw [← hwn] at HO)
                    (try rw [← hwn] at HRQ)
                    (try rw [← hwn] at HRT)
                    rw [← hg] at HQ ⊢
                    (try rw [← hg] at HNV0)
                    (try have HNV := Lib.hid (fun (e : Value.ownBlock _ = some g) => Nat.lt_irrefl _ (HNV0 g e)))
                    (try clear HNV0)
                    clear hwn hg
                    clear hK K
                    (try simp only [Act.put, List.setIfInBounds_toArray, List.set_cons_zero, List.set_cons_succ])
                    refine wpAnyH_ready (rs := [7]) (by kernel_rfl) (by simp) ?_
                    refine AllReadyH.cons (o := { dst := some 114, op := Op.call { callee := Callee.value (Operand.func 14), args := #[Operand.tmp 108, Operand.tmp 110, Operand.tmp 111, Operand.tmp 112, Operand.tmp 113], argTypes := #[25, 29, 3, 3, 3] }, type := 32, pos := "exact.go:4979", after := #[{ on := 1, ground := Ground.data }, { on := 3, ground := Ground.data }, { on := 4, ground := Ground.data }, { on := 5, ground := Ground.data }, { on := 6, ground := Ground.data }, { on := 3, ground := Ground.chain }], guard := none }) rfl (fun K hK => ?_) ?_
                    · go_simp
                      (with_reducible refine (HIV.out _ _ _ HRT HRQ).mono ?_)
                      rintro e wd ⟨A6, c6, rfl, ho6, hb7⟩
                      (try have HNV : Hid (Value.ownBlock (.slice A6 yy.length c6) ≠ some g) := Lib.hid (fun e => by have h1 := own_block ho6 g e; have h2 := (HQ.box 0).lt; omega))
                      have HQ := HQ.later hb7
                      have HO := Lib.hid (own_base ho6 HSZ.out)
                      have HBW := Lib.hid (HBW.out.trans (hb7.mono HSZ.out))
                      have HSZ := Lib.hid (Nat.le_trans HSZ.out hb7.size)
                      clear ho6 hb7 HRQ HRT
                      (try go_wp2_with fail)
                      refine hK.out _ _ (by (try dsimp only); (first | with_reducible exact HC _ HQ | with_reducible exact HC _ HQ.tail)) (fun hHeld => ?_)
                      clear hK K
                      (try simp only [Act.put, List.setIfInBounds_toArray, List.set_cons_zero, List.set_cons_succ])
                      refine wpAnyH_take (i := 8) (oi := { dst := some 106, op := Op.move (Operand.tmp 114), type := 32, pos := "exact.go:4979", after := #[{ on := 7, ground := Ground.data }], guard := none }) (v := ?_) rfl (by kernel_rfl) (by kernel_rfl) (by kernel_rfl) (fun _ _ _ h => h) (Or.inl ⟨by rfl, ?_⟩) (by assumption) ?_
                      rotate_left 1
                      · (intro w hSw; (try dsimp only at hSw); go_simp <;> with_reducible rfl)
                      (try simp only [Act.put, List.setIfInBounds_toArray, List.set_cons_zero, List.set_cons_succ])
                      refine wpAnyH_take (i := 9) (oi := { dst := some 115, op := Op.extract (Operand.tmp 106) 0, type := 3, pos := "exact.go:4979", after := #[{ on := 8, ground := Ground.data }], guard := none }) (v := ?_) rfl (by kernel_rfl) (by kernel_rfl) (by kernel_rfl) (fun _ _ _ h => h) (Or.inl ⟨by rfl, ?_⟩) (by assumption) ?_
                      rotate_left 1
                      · (intro w hSw; (try dsimp only at hSw); go_simp <;> with_reducible rfl)
                      (try simp only [Act.put, List.setIfInBounds_toArray, List.set_cons_zero, List.set_cons_succ])
                      refine wpAnyH_take (i := 10) (oi := { dst := some 116, op := Op.extract (Operand.tmp 106) 1, type := 29, pos := "exact.go:4979", after := #[{ on := 8, ground := Ground.data }, { on := 12, ground := Ground.gcOnly Departure.lateStores }], guard := none }) (v := ?_) rfl (by kernel_rfl) (by kernel_rfl) (by kernel_rfl) (fun _ _ _ h => h) (Or.inl ⟨by rfl, ?_⟩) (by assumption) ?_
                      rotate_left 1
                      · (intro w hSw; (try dsimp only at hSw); go_simp <;> with_reducible rfl)
                      (try simp only [Act.put, List.setIfInBounds_toArray, List.set_cons_zero, List.set_cons_succ])
                      refine wpAnyH_take (i := 12) (oi := { dst := some 21, op := Op.assign (Operand.tmp 115), type := 3, pos := "exact.go:4979", after := #[{ on := 9, ground := Ground.data }, { on := 7, ground := Ground.chain }, { on := 0, ground := Ground.phase }, { on := 1, ground := Ground.phase }, { on := 2, ground := Ground.phase }, { on := 3, ground := Ground.phase }, { on := 4, ground := Ground.phase }, { on := 5, ground := Ground.phase }, { on := 6, ground := Ground.phase }, { on := 7, ground := Ground.phase }, { on := 8, ground := Ground.phase }, { on := 9, ground := Ground.phase }, { on := 10, ground := Ground.textOnly Departure.lateStores }, { on := 11, ground := Ground.phase }], guard := none }) (v := ?_) rfl (by kernel_rfl) (by kernel_rfl) (by kernel_rfl) (fun _ _ _ h => h) (Or.inl ⟨by rfl, ?_⟩) (by assumption) ?_
                      rotate_left 1
                      · (intro w hSw; (try dsimp only at hSw); go_simp <;> with_reducible rfl)
                      (try simp only [Act.put, List.setIfInBounds_toArray, List.set_cons_zero, List.set_cons_succ])
                      refine wpAnyH_ready (rs := [13]) (by kernel_rfl) (by simp) ?_
                      refine AllReadyH.cons (o := { dst := none, op := Op.store 29 (Operand.tmp 22) (Operand.tmp 116), type := 0, pos := "exact.go:4979", after := #[{ on := 11, ground := Ground.data }, { on := 10, ground := Ground.data }, { on := 12, ground := Ground.chain }, { on := 0, ground := Ground.phase }, { on := 1, ground := Ground.phase }, { on := 2, ground := Ground.phase }, { on := 3, ground := Ground.phase }, { on := 4, ground := Ground.phase }, { on := 5, ground := Ground.phase }, { on := 6, ground := Ground.phase }, { on := 7, ground := Ground.phase }, { on := 8, ground := Ground.phase }, { on := 9, ground := Ground.phase }, { on := 10, ground := Ground.phase }, { on := 11, ground := Ground.phase }, { on := 12, ground := Ground.phase }], guard := none }) rfl (fun K hK => ?_) ?_
                      · have c60 := (HQ.box 0).c 0
                        have c61 := (HQ.box 0).c 1
                        have c62 := (HQ.box 0).c 2
                        have f60 := (HQ.box 0).f 0
                        have f61 := (HQ.box 0).f 1
                        have f62 := (HQ.box 0).f 2
                        go_simp
                        clear c60 c61 c62 f60 f61 f62
                        have HQ := ((HQ.put (by have h1 := HGB.out; have h2 := HBQ.out; omega) (fun p hp => by (have h1 := HGB.out; have h2 := HBQ.out; simp only [List.mem_cons, List.not_mem_nil, or_false] at hp; rcases hp with rfl | rfl | rfl | rfl | rfl | rfl <;> (show _ ≠ _) <;> omega)) 0 (.int .i64 LL)).put (by have h1 := HGB.out; have h2 := HBQ.out; omega) (fun p hp => by (have h1 := HGB.out; have h2 := HBQ.out; simp only [List.mem_cons, List.not_mem_nil, or_false] at hp; rcases hp with rfl | rfl | rfl | rfl | rfl | rfl <;> (show _ ≠ _) <;> omega)) 1 (.slice A6 yy.length c6)).put (by have h1 := HGB.out; have h2 := HBQ.out; omega) (fun p hp => by (have h1 := HGB.out; have h2 := HBQ.out; simp only [List.mem_cons, List.not_mem_nil, or_false] at hp; rcases hp with rfl | rfl | rfl | rfl | rfl | rfl <;> (show _ ≠ _) <;> omega)) 2 (.int .i64 KK)
                        have HO := Lib.hid (own_set3W HO.out HNV.out (.int .i64 LL) (.slice A6 yy.length c6) (.int .i64 KK))
                        have HBW := Lib.hid (((HBW.out.setCell (p := ⟨g, 0, none⟩) HGB.out (.int .i64 LL)).setCell (p := ⟨g, 1, none⟩) HGB.out (.slice A6 yy.length c6)).setCell (p := ⟨g, 2, none⟩) HGB.out (.int .i64 KK))
                        refine hK.out _ _ (by (try dsimp only); exact HC _ HQ.tail) (fun hHeld => ?_)
                        clear hK K
                        (try simp only [Act.put, List.setIfInBounds_toArray, List.set_cons_zero, List.set_cons_succ])
                        refine wpAnyH_done (by kernel_rfl) ?_ _
                        clear hHeld
                        go_wp2
                        go_meet
                        exact ⟨rfl, _, A6, c6, rfl, HQ, HO.out, HGB.out, HNV.out, by rw [← HSZ0.out]; exact HBW.out⟩
                      exact AllReadyH.nil
                    exact AllReadyH.nil
                  exact AllReadyH.nil
                refine AllReadyH.cons (o := { dst := some 22, op := Op.alloc 29, type := 0, pos := "exact.go:4979", after := #[], guard := none }) rfl (fun K hK => ?_) ?_
                · go_simp
                  (try have HNV0 := fun q (e : Value.ownBlock _ = some q) => (HO.out.lt q e).2)
                  have HQ := HQ.new #[.int .i64 0, .slice none 0 0, .int .i64 0] 29
                  (try have HO := Lib.hid (HO.out.alloc (.cells #[.int .i64 0, .slice none 0 0, .int .i64 0] 29)))
                  (try have HRQ := rowC_alloc HRQ (.cells #[.int .i64 0, .slice none 0 0, .int .i64 0] 29))
                  (try have HRT := rowI_alloc HRT (.cells #[.int .i64 0, .slice none 0 0, .int .i64 0] 29))
                  refine hK.out _ _ (by (try dsimp only); (first | with_reducible exact HC _ HQ | with_reducible exact HC _ HQ.tail)) (fun hHeld => ?_)
                  obtain ⟨wn, hwn⟩ : ∃ W, W = wd.alloc (.cells #[.int .i64 0, .slice none 0 0, .int .i64 0] 29) := ⟨_, rfl⟩
                  obtain ⟨g, hg⟩ : ∃ k, k = wd.heap.size := ⟨_, rfl⟩
                  have HGB := Lib.hid (show Bq ≤ g by rw [hg]; exact HSZ.out)
                  have HBW := Lib.hid (HBW.out.alloc HSZ.out (.cells #[.int .i64 0, .slice none 0 0, .int .i64 0] 29))
                  have HSZ : Hid (Bq ≤ (wd.alloc (.cells #[.int .i64 0, .slice none 0 0, .int .i64 0] 29)).heap.size) := Lib.hid (by have := HSZ.out; simp; omega)
                  rw [← hwn] at HQ HSZ HBW hHeld ⊢
                  (try rw [← hwn] at HO)
                  (try rw [← hwn] at HRQ)
                  (try rw [← hwn] at HRT)
                  rw [← hg] at HQ ⊢
                  (try rw [← hg] at HNV0)
                  (try have HNV := Lib.hid (fun (e : Value.ownBlock _ = some g) => Nat.lt_irrefl _ (HNV0 g e)))
                  (try clear HNV0)
                  clear hwn hg
                  clear hK K
                  (try simp only [Act.put, List.setIfInBounds_toArray, List.set_cons_zero, List.set_cons_succ])
                  refine wpAnyH_ready (rs := [3]) (by kernel_rfl) (by simp) ?_
                  refine AllReadyH.cons (o := { dst := some 110, op := Op.call { callee := Callee.value (Operand.func 24), args := #[Operand.tmp 109], argTypes := #[43] }, type := 29, pos := "exact.go:4979", after := #[{ on := 2, ground := Ground.data }, { on := 1, ground := Ground.chain }], guard := none }) rfl (fun K hK => ?_) ?_
                  · go_simp
                    (with_reducible refine (TC.out _ (HI.out _ HQ.below)).mono ?_)
                    rintro e wd ⟨g6, rfl, _, ho6, hb7⟩
                    have HQ := HQ.later hb7
                    (try have HRT := HRT.later hb7)
                    have HRQ := (RowC.of_own vg_len ho6 rfl : RowC 3 vg wd wd.heap.size (some ⟨g6, 0, none⟩) x1)
                    have HBW := Lib.hid (HBW.out.trans (hb7.mono HSZ.out))
                    have HSZ := Lib.hid (Nat.le_trans HSZ.out hb7.size)
                    clear ho6 hb7
                    (try go_wp2_with fail)
                    refine hK.out _ _ (by (try dsimp only); (first | with_reducible exact HC _ HQ | with_reducible exact HC _ HQ.tail)) (fun hHeld => ?_)
                    clear hK K
                    (try simp only [Act.put, List.setIfInBounds_toArray, List.set_cons_zero, List.set_cons_succ])
                    refine wpAnyH_ready (rs := [7]) (by kernel_rfl) (by simp) ?_
                    refine AllReadyH.cons (o := { dst := some 114, op := Op.call { callee := Callee.value (Operand.func 14), args := #[Operand.tmp 108, Operand.tmp 110, Operand.tmp 111, Operand.tmp 112, Operand.tmp 113], argTypes := #[25, 29, 3, 3, 3] }, type := 32, pos := "exact.go:4979", after := #[{ on := 1, ground := Ground.data }, { on := 3, ground := Ground.data }, { on := 4, ground := Ground.data }, { on := 5, ground := Ground.data }, { on := 6, ground := Ground.data }, { on := 3, ground := Ground.chain }], guard := none }) rfl (fun K hK => ?_) ?_
                    · go_simp
                      (with_reducible refine (HIV.out _ _ _ HRT HRQ).mono ?_)
                      rintro e wd ⟨A6, c6, rfl, ho6, hb7⟩
                      (try have HNV : Hid (Value.ownBlock (.slice A6 yy.length c6) ≠ some g) := Lib.hid (fun e => by have h1 := own_block ho6 g e; have h2 := (HQ.box 0).lt; omega))
                      have HQ := HQ.later hb7
                      have HO := Lib.hid (own_base ho6 HSZ.out)
                      have HBW := Lib.hid (HBW.out.trans (hb7.mono HSZ.out))
                      have HSZ := Lib.hid (Nat.le_trans HSZ.out hb7.size)
                      clear ho6 hb7 HRQ HRT
                      (try go_wp2_with fail)
                      refine hK.out _ _ (by (try dsimp only); (first | with_reducible exact HC _ HQ | with_reducible exact HC _ HQ.tail)) (fun hHeld => ?_)
                      clear hK K
                      (try simp only [Act.put, List.setIfInBounds_toArray, List.set_cons_zero, List.set_cons_succ])
                      refine wpAnyH_take (i := 8) (oi := { dst := some 106, op := Op.move (Operand.tmp 114), type := 32, pos := "exact.go:4979", after := #[{ on := 7, ground := Ground.data }], guard := none }) (v := ?_) rfl (by kernel_rfl) (by kernel_rfl) (by kernel_rfl) (fun _ _ _ h => h) (Or.inl ⟨by rfl, ?_⟩) (by assumption) ?_
                      rotate_left 1
                      · (intro w hSw; (try dsimp only at hSw); go_simp <;> with_reducible rfl)
                      (try simp only [Act.put, List.setIfInBounds_toArray, List.set_cons_zero, List.set_cons_succ])
                      refine wpAnyH_take (i := 9) (oi := { dst := some 115, op := Op.extract (Operand.tmp 106) 0, type := 3, pos := "exact.go:4979", after := #[{ on := 8, ground := Ground.data }], guard := none }) (v := ?_) rfl (by kernel_rfl) (by kernel_rfl) (by kernel_rfl) (fun _ _ _ h => h) (Or.inl ⟨by rfl, ?_⟩) (by assumption) ?_
                      rotate_left 1
                      · (intro w hSw; (try dsimp only at hSw); go_simp <;> with_reducible rfl)
                      (try simp only [Act.put, List.setIfInBounds_toArray, List.set_cons_zero, List.set_cons_succ])
                      refine wpAnyH_take (i := 10) (oi := { dst := some 116, op := Op.extract (Operand.tmp 106) 1, type := 29, pos := "exact.go:4979", after := #[{ on := 8, ground := Ground.data }, { on := 12, ground := Ground.gcOnly Departure.lateStores }], guard := none }) (v := ?_) rfl (by kernel_rfl) (by kernel_rfl) (by kernel_rfl) (fun _ _ _ h => h) (Or.inl ⟨by rfl, ?_⟩) (by assumption) ?_
                      rotate_left 1
                      · (intro w hSw; (try dsimp only at hSw); go_simp <;> with_reducible rfl)
                      (try simp only [Act.put, List.setIfInBounds_toArray, List.set_cons_zero, List.set_cons_succ])
                      refine wpAnyH_take (i := 12) (oi := { dst := some 21, op := Op.assign (Operand.tmp 115), type := 3, pos := "exact.go:4979", after := #[{ on := 9, ground := Ground.data }, { on := 7, ground := Ground.chain }, { on := 0, ground := Ground.phase }, { on := 1, ground := Ground.phase }, { on := 2, ground := Ground.phase }, { on := 3, ground := Ground.phase }, { on := 4, ground := Ground.phase }, { on := 5, ground := Ground.phase }, { on := 6, ground := Ground.phase }, { on := 7, ground := Ground.phase }, { on := 8, ground := Ground.phase }, { on := 9, ground := Ground.phase }, { on := 10, ground := Ground.textOnly Departure.lateStores }, { on := 11, ground := Ground.phase }], guard := none }) (v := ?_) rfl (by kernel_rfl) (by kernel_rfl) (by kernel_rfl) (fun _ _ _ h => h) (Or.inl ⟨by rfl, ?_⟩) (by assumption) ?_
                      rotate_left 1
                      · (intro w hSw; (try dsimp only at hSw); go_simp <;> with_reducible rfl)
                      (try simp only [Act.put, List.setIfInBounds_toArray, List.set_cons_zero, List.set_cons_succ])
                      refine wpAnyH_ready (rs := [13]) (by kernel_rfl) (by simp) ?_
                      refine AllReadyH.cons (o := { dst := none, op := Op.store 29 (Operand.tmp 22) (Operand.tmp 116), type := 0, pos := "exact.go:4979", after := #[{ on := 11, ground := Ground.data }, { on := 10, ground := Ground.data }, { on := 12, ground := Ground.chain }, { on := 0, ground := Ground.phase }, { on := 1, ground := Ground.phase }, { on := 2, ground := Ground.phase }, { on := 3, ground := Ground.phase }, { on := 4, ground := Ground.phase }, { on := 5, ground := Ground.phase }, { on := 6, ground := Ground.phase }, { on := 7, ground := Ground.phase }, { on := 8, ground := Ground.phase }, { on := 9, ground := Ground.phase }, { on := 10, ground := Ground.phase }, { on := 11, ground := Ground.phase }, { on := 12, ground := Ground.phase }], guard := none }) rfl (fun K hK => ?_) ?_
                      · have c60 := (HQ.box 0).c 0
                        have c61 := (HQ.box 0).c 1
                        have c62 := (HQ.box 0).c 2
                        have f60 := (HQ.box 0).f 0
                        have f61 := (HQ.box 0).f 1
                        have f62 := (HQ.box 0).f 2
                        go_simp
                        clear c60 c61 c62 f60 f61 f62
                        have HQ := ((HQ.put (by have h1 := HGB.out; have h2 := HBQ.out; omega) (fun p hp => by (have h1 := HGB.out; have h2 := HBQ.out; simp only [List.mem_cons, List.not_mem_nil, or_false] at hp; rcases hp with rfl | rfl | rfl | rfl | rfl | rfl <;> (show _ ≠ _) <;> omega)) 0 (.int .i64 LL)).put (by have h1 := HGB.out; have h2 := HBQ.out; omega) (fun p hp => by (have h1 := HGB.out; have h2 := HBQ.out; simp only [List.mem_cons, List.not_mem_nil, or_false] at hp; rcases hp with rfl | rfl | rfl | rfl | rfl | rfl <;> (show _ ≠ _) <;> omega)) 1 (.slice A6 yy.length c6)).put (by have h1 := HGB.out; have h2 := HBQ.out; omega) (fun p hp => by (have h1 := HGB.out; have h2 := HBQ.out; simp only [List.mem_cons, List.not_mem_nil, or_false] at hp; rcases hp with rfl | rfl | rfl | rfl | rfl | rfl <;> (show _ ≠ _) <;> omega)) 2 (.int .i64 KK)
                        have HO := Lib.hid (own_set3W HO.out HNV.out (.int .i64 LL) (.slice A6 yy.length c6) (.int .i64 KK))
                        have HBW := Lib.hid (((HBW.out.setCell (p := ⟨g, 0, none⟩) HGB.out (.int .i64 LL)).setCell (p := ⟨g, 1, none⟩) HGB.out (.slice A6 yy.length c6)).setCell (p := ⟨g, 2, none⟩) HGB.out (.int .i64 KK))
                        refine hK.out _ _ (by (try dsimp only); exact HC _ HQ.tail) (fun hHeld => ?_)
                        clear hK K
                        (try simp only [Act.put, List.setIfInBounds_toArray, List.set_cons_zero, List.set_cons_succ])
                        refine wpAnyH_done (by kernel_rfl) ?_ _
                        clear hHeld
                        go_wp2
                        go_meet
                        exact ⟨rfl, _, A6, c6, rfl, HQ, HO.out, HGB.out, HNV.out, by rw [← HSZ0.out]; exact HBW.out⟩
                      exact AllReadyH.nil
                    exact AllReadyH.nil
                  exact AllReadyH.nil
                exact AllReadyH.nil
              refine AllReadyH.cons (o := { dst := some 22, op := Op.alloc 29, type := 0, pos := "exact.go:4979", after := #[], guard := none }) rfl (fun K hK => ?_) ?_
              · go_simp
                (try have HNV0 := fun q (e : Value.ownBlock _ = some q) => (HO.out.lt q e).2)
                have HQ := HQ.new #[.int .i64 0, .slice none 0 0, .int .i64 0] 29
                (try have HO := Lib.hid (HO.out.alloc (.cells #[.int .i64 0, .slice none 0 0, .int .i64 0] 29)))
                (try have HRQ := rowC_alloc HRQ (.cells #[.int .i64 0, .slice none 0 0, .int .i64 0] 29))
                (try have HRT := rowI_alloc HRT (.cells #[.int .i64 0, .slice none 0 0, .int .i64 0] 29))
                refine hK.out _ _ (by (try dsimp only); (first | with_reducible exact HC _ HQ | with_reducible exact HC _ HQ.tail)) (fun hHeld => ?_)
                obtain ⟨wn, hwn⟩ : ∃ W, W = wd.alloc (.cells #[.int .i64 0, .slice none 0 0, .int .i64 0] 29) := ⟨_, rfl⟩
                obtain ⟨g, hg⟩ : ∃ k, k = wd.heap.size := ⟨_, rfl⟩
                have HGB := Lib.hid (show Bq ≤ g by rw [hg]; exact HSZ.out)
                have HBW := Lib.hid (HBW.out.alloc HSZ.out (.cells #[.int .i64 0, .slice none 0 0, .int .i64 0] 29))
                have HSZ : Hid (Bq ≤ (wd.alloc (.cells #[.int .i64 0, .slice none 0 0, .int .i64 0] 29)).heap.size) := Lib.hid (by have := HSZ.out; simp; omega)
                rw [← hwn] at HQ HSZ HBW hHeld ⊢
                (try rw [← hwn] at HO)
                (try rw [← hwn] at HRQ)
                (try rw [← hwn] at HRT)
                rw [← hg] at HQ ⊢
                (try rw [← hg] at HNV0)
                (try have HNV := Lib.hid (fun (e : Value.ownBlock _ = some g) => Nat.lt_irrefl _ (HNV0 g e)))
                (try clear HNV0)
                clear hwn hg
                clear hK K
                (try simp only [Act.put, List.setIfInBounds_toArray, List.set_cons_zero, List.set_cons_succ])
                refine wpAnyH_ready (rs := [1]) (by kernel_rfl) (by simp) ?_
                refine AllReadyH.cons (o := { dst := some 108, op := Op.call { callee := Callee.value (Operand.func 27), args := #[Operand.tmp 107], argTypes := #[47] }, type := 25, pos := "exact.go:4979", after := #[{ on := 0, ground := Ground.data }], guard := none }) rfl (fun K hK => ?_) ?_
                · go_simp
                  (with_reducible refine (TT2.out _ (HIT.out _ HQ.below)).mono ?_)
                  rintro e wd ⟨g2, rfl, _, ho2, hb7⟩
                  have HQ := HQ.later hb7
                  have HRT := ho2.row
                  have HBW := Lib.hid (HBW.out.trans (hb7.mono HSZ.out))
                  have HSZ := Lib.hid (Nat.le_trans HSZ.out hb7.size)
                  clear ho2 hb7
                  (try go_wp2_with fail)
                  refine hK.out _ _ (by (try dsimp only); (first | with_reducible exact HC _ HQ | with_reducible exact HC _ HQ.tail)) (fun hHeld => ?_)
                  clear hK K
                  (try simp only [Act.put, List.setIfInBounds_toArray, List.set_cons_zero, List.set_cons_succ])
                  refine wpAnyH_ready (rs := [3]) (by kernel_rfl) (by simp) ?_
                  refine AllReadyH.cons (o := { dst := some 110, op := Op.call { callee := Callee.value (Operand.func 24), args := #[Operand.tmp 109], argTypes := #[43] }, type := 29, pos := "exact.go:4979", after := #[{ on := 2, ground := Ground.data }, { on := 1, ground := Ground.chain }], guard := none }) rfl (fun K hK => ?_) ?_
                  · go_simp
                    (with_reducible refine (TC.out _ (HI.out _ HQ.below)).mono ?_)
                    rintro e wd ⟨g6, rfl, _, ho6, hb7⟩
                    have HQ := HQ.later hb7
                    (try have HRT := HRT.later hb7)
                    have HRQ := (RowC.of_own vg_len ho6 rfl : RowC 3 vg wd wd.heap.size (some ⟨g6, 0, none⟩) x1)
                    have HBW := Lib.hid (HBW.out.trans (hb7.mono HSZ.out))
                    have HSZ := Lib.hid (Nat.le_trans HSZ.out hb7.size)
                    clear ho6 hb7
                    (try go_wp2_with fail)
                    refine hK.out _ _ (by (try dsimp only); (first | with_reducible exact HC _ HQ | with_reducible exact HC _ HQ.tail)) (fun hHeld => ?_)
                    clear hK K
                    (try simp only [Act.put, List.setIfInBounds_toArray, List.set_cons_zero, List.set_cons_succ])
                    refine wpAnyH_ready (rs := [7]) (by kernel_rfl) (by simp) ?_
                    refine AllReadyH.cons (o := { dst := some 114, op := Op.call { callee := Callee.value (Operand.func 14), args := #[Operand.tmp 108, Operand.tmp 110, Operand.tmp 111, Operand.tmp 112, Operand.tmp 113], argTypes := #[25, 29, 3, 3, 3] }, type := 32, pos := "exact.go:4979", after := #[{ on := 1, ground := Ground.data }, { on := 3, ground := Ground.data }, { on := 4, ground := Ground.data }, { on := 5, ground := Ground.data }, { on := 6, ground := Ground.data }, { on := 3, ground := Ground.chain }], guard := none }) rfl (fun K hK => ?_) ?_
                    · go_simp
                      (with_reducible refine (HIV.out _ _ _ HRT HRQ).mono ?_)
                      rintro e wd ⟨A6, c6, rfl, ho6, hb7⟩
                      (try have HNV : Hid (Value.ownBlock (.slice A6 yy.length c6) ≠ some g) := Lib.hid (fun e => by have h1 := own_block ho6 g e; have h2 := (HQ.box 0).lt; omega))
                      have HQ := HQ.later hb7
                      have HO := Lib.hid (own_base ho6 HSZ.out)
                      have HBW := Lib.hid (HBW.out.trans (hb7.mono HSZ.out))
                      have HSZ := Lib.hid (Nat.le_trans HSZ.out hb7.size)
                      clear ho6 hb7 HRQ HRT
                      (try go_wp2_with fail)
                      refine hK.out _ _ (by (try dsimp only); (first | with_reducible exact HC _ HQ | with_reducible exact HC _ HQ.tail)) (fun hHeld => ?_)
                      clear hK K
                      (try simp only [Act.put, List.setIfInBounds_toArray, List.set_cons_zero, List.set_cons_succ])
                      refine wpAnyH_take (i := 8) (oi := { dst := some 106, op := Op.move (Operand.tmp 114), type := 32, pos := "exact.go:4979", after := #[{ on := 7, ground := Ground.data }], guard := none }) (v := ?_) rfl (by kernel_rfl) (by kernel_rfl) (by kernel_rfl) (fun _ _ _ h => h) (Or.inl ⟨by rfl, ?_⟩) (by assumption) ?_
                      rotate_left 1
                      · (intro w hSw; (try dsimp only at hSw); go_simp <;> with_reducible rfl)
                      (try simp only [Act.put, List.setIfInBounds_toArray, List.set_cons_zero, List.set_cons_succ])
                      refine wpAnyH_take (i := 9) (oi := { dst := some 115, op := Op.extract (Operand.tmp 106) 0, type := 3, pos := "exact.go:4979", after := #[{ on := 8, ground := Ground.data }], guard := none }) (v := ?_) rfl (by kernel_rfl) (by kernel_rfl) (by kernel_rfl) (fun _ _ _ h => h) (Or.inl ⟨by rfl, ?_⟩) (by assumption) ?_
                      rotate_left 1
                      · (intro w hSw; (try dsimp only at hSw); go_simp <;> with_reducible rfl)
                      (try simp only [Act.put, List.setIfInBounds_toArray, List.set_cons_zero, List.set_cons_succ])
                      refine wpAnyH_take (i := 10) (oi := { dst := some 116, op := Op.extract (Operand.tmp 106) 1, type := 29, pos := "exact.go:4979", after := #[{ on := 8, ground := Ground.data }, { on := 12, ground := Ground.gcOnly Departure.lateStores }], guard := none }) (v := ?_) rfl (by kernel_rfl) (by kernel_rfl) (by kernel_rfl) (fun _ _ _ h => h) (Or.inl ⟨by rfl, ?_⟩) (by assumption) ?_
                      rotate_left 1
                      · (intro w hSw; (try dsimp only at hSw); go_simp <;> with_reducible rfl)
                      (try simp only [Act.put, List.setIfInBounds_toArray, List.set_cons_zero, List.set_cons_succ])
                      refine wpAnyH_take (i := 12) (oi := { dst := some 21, op := Op.assign (Operand.tmp 115), type := 3, pos := "exact.go:4979", after := #[{ on := 9, ground := Ground.data }, { on := 7, ground := Ground.chain }, { on := 0, ground := Ground.phase }, { on := 1, ground := Ground.phase }, { on := 2, ground := Ground.phase }, { on := 3, ground := Ground.phase }, { on := 4, ground := Ground.phase }, { on := 5, ground := Ground.phase }, { on := 6, ground := Ground.phase }, { on := 7, ground := Ground.phase }, { on := 8, ground := Ground.phase }, { on := 9, ground := Ground.phase }, { on := 10, ground := Ground.textOnly Departure.lateStores }, { on := 11, ground := Ground.phase }], guard := none }) (v := ?_) rfl (by kernel_rfl) (by kernel_rfl) (by kernel_rfl) (fun _ _ _ h => h) (Or.inl ⟨by rfl, ?_⟩) (by assumption) ?_
                      rotate_left 1
                      · (intro w hSw; (try dsimp only at hSw); go_simp <;> with_reducible rfl)
                      (try simp only [Act.put, List.setIfInBounds_toArray, List.set_cons_zero, List.set_cons_succ])
                      refine wpAnyH_ready (rs := [13]) (by kernel_rfl) (by simp) ?_
                      refine AllReadyH.cons (o := { dst := none, op := Op.store 29 (Operand.tmp 22) (Operand.tmp 116), type := 0, pos := "exact.go:4979", after := #[{ on := 11, ground := Ground.data }, { on := 10, ground := Ground.data }, { on := 12, ground := Ground.chain }, { on := 0, ground := Ground.phase }, { on := 1, ground := Ground.phase }, { on := 2, ground := Ground.phase }, { on := 3, ground := Ground.phase }, { on := 4, ground := Ground.phase }, { on := 5, ground := Ground.phase }, { on := 6, ground := Ground.phase }, { on := 7, ground := Ground.phase }, { on := 8, ground := Ground.phase }, { on := 9, ground := Ground.phase }, { on := 10, ground := Ground.phase }, { on := 11, ground := Ground.phase }, { on := 12, ground := Ground.phase }], guard := none }) rfl (fun K hK => ?_) ?_
                      · have c60 := (HQ.box 0).c 0
                        have c61 := (HQ.box 0).c 1
                        have c62 := (HQ.box 0).c 2
                        have f60 := (HQ.box 0).f 0
                        have f61 := (HQ.box 0).f 1
                        have f62 := (HQ.box 0).f 2
                        go_simp
                        clear c60 c61 c62 f60 f61 f62
                        have HQ := ((HQ.put (by have h1 := HGB.out; have h2 := HBQ.out; omega) (fun p hp => by (have h1 := HGB.out; have h2 := HBQ.out; simp only [List.mem_cons, List.not_mem_nil, or_false] at hp; rcases hp with rfl | rfl | rfl | rfl | rfl | rfl <;> (show _ ≠ _) <;> omega)) 0 (.int .i64 LL)).put (by have h1 := HGB.out; have h2 := HBQ.out; omega) (fun p hp => by (have h1 := HGB.out; have h2 := HBQ.out; simp only [List.mem_cons, List.not_mem_nil, or_false] at hp; rcases hp with rfl | rfl | rfl | rfl | rfl | rfl <;> (show _ ≠ _) <;> omega)) 1 (.slice A6 yy.length c6)).put (by have h1 := HGB.out; have h2 := HBQ.out; omega) (fun p hp => by (have h1 := HGB.out; have h2 := HBQ.out; simp only [List.mem_cons, List.not_mem_nil, or_false] at hp; rcases hp with rfl | rfl | rfl | rfl | rfl | rfl <;> (show _ ≠ _) <;> omega)) 2 (.int .i64 KK)
                        have HO := Lib.hid (own_set3W HO.out HNV.out (.int .i64 LL) (.slice A6 yy.length c6) (.int .i64 KK))
                        have HBW := Lib.hid (((HBW.out.setCell (p := ⟨g, 0, none⟩) HGB.out (.int .i64 LL)).setCell (p := ⟨g, 1, none⟩) HGB.out (.slice A6 yy.length c6)).setCell (p := ⟨g, 2, none⟩) HGB.out (.int .i64 KK))
                        refine hK.out _ _ (by (try dsimp only); exact HC _ HQ.tail) (fun hHeld => ?_)
                        clear hK K
                        (try simp only [Act.put, List.setIfInBounds_toArray, List.set_cons_zero, List.set_cons_succ])
                        refine wpAnyH_done (by kernel_rfl) ?_ _
                        clear hHeld
                        go_wp2
                        go_meet
                        exact ⟨rfl, _, A6, c6, rfl, HQ, HO.out, HGB.out, HNV.out, by rw [← HSZ0.out]; exact HBW.out⟩
                      exact AllReadyH.nil
                    exact AllReadyH.nil
                  exact AllReadyH.nil
                exact AllReadyH.nil
              exact AllReadyH.nil
            case rest =>
              clear HC HQ HCC
              obtain ⟨rfl, H0, A8, c8, rfl, HT, hown8, hB8, _, hbw8⟩ := hcut
              have HR := Lib.hid (HR.out.below (hbw8.mono (by omega)))
              have HM := Lib.hid (HM.out.later hbw8)
              have HO := Lib.hid hown8
              have hs13 : G0 + 1 ≤ wc.heap.size := Nat.le_trans hs11 hbw8.size
              clear hbw8 hs11 hown8 HBQ
              have k00 := (HT.box 0).c 0
              have k01 := (HT.box 0).c 1
              have k02 := (HT.box 0).c 2
              have k40 := (HT.box 4).c 0
              have k41 := (HT.box 4).c 1
              have k42 := (HT.box 4).c 2
              go_wp2_with fail
              refine (eqCache_same LL _ _ _ _ yy KK _ (RowC.of_own vg_len HO.out rfl) (HR.out.more (by omega)) (by have := HLEN.out; omega)).mono ?_
              rintro e w14 ⟨rfl, hb14⟩
              have HT := HT.later hb14
              have HM := Lib.hid (HM.out.later hb14)
              clear k00 k01 k02 k40 k41 k42 hb14 HO HR
              have k10 := (HT.box 1).c 0
              have k11 := (HT.box 1).c 1
              have k12 := (HT.box 1).c 2
              go_wp2_with fail
              refine (HHE _ HM.out).mono ?_
              rintro e w15 ⟨rfl, hb15⟩
              have HT := HT.later hb15
              clear k10 k11 k12 hb15 HM HHE
              go_wp2_with fail
              go_ret
              exact ⟨rfl, HT.below⟩
    · clear hfit
      go_wp2_with fail
      go_ret
      exact ⟨rfl, HT.below⟩
  · clear hfit
    go_wp2_with fail
    go_ret
    exact ⟨rfl, HT.below⟩

set_option maxRecDepth 100000 in
theorem lifted (os : Os) (started : os.Started) (H : Type) (enc : TypeId × Value → H) :
    ReturnsInHanded {} Try.checked os 9 .any (Rows.fnExactCachedLookupSpec.pre6 enc Try.prog Try.f9 Rows.fnExactCachedLookupRow.domain false) (Rows.fnExactCachedLookupSpec.post enc Try.prog Try.f9 false true false false) := by
  refine returnsInHanded_of_change (C := Try.checked) own started (by kernel_rfl) Try.func9
    (ChangeSpec.witness6 (enc := enc) (C := Try.checked) false ⟨#[], #[.agg #[.int .i64 0, .slice none 0 0], .agg #[.int .i64 0, .slice none 0 0, .int .i64 0], .int .i64 0, .int .i64 0, .int .i64 0], []⟩ 8 (by kernel_rfl) (by kernel_rfl) (by kernel_rfl) (by kernel_rfl)) ?_
  intro W base args ds gs before hval0 hW hcnd _
  have hval : ∀ (j : Nat) t v, Try.f9.params[j]? = some t → args[j]? = some v → Value.okWide Try.prog W .any base t v := hval0
  have hW' := hW
  obtain ⟨p, q, hA0, hV, rfl, hfz, hnd⟩ := hW
  have hA : DataW.TrodAll enc Try.prog W 0 (fun _ => true) true Try.f9.params.toList args.toList ds p := hA0
  rw [Try.params9] at hA hval
  obtain ⟨v0, vs0, d0, ds0, p0, q0, hargs, rfl, rfl, h0, r1000⟩ := trodAll_cons hA
  obtain ⟨v1, vs1, d1, ds1, p1, q1, rfl, rfl, rfl, h1, r1001⟩ := trodAll_cons r1000
  obtain ⟨v2, vs2, d2, ds2, p2, q2, rfl, rfl, rfl, h2, r1002⟩ := trodAll_cons r1001
  obtain ⟨v3, vs3, d3, ds3, p3, q3, rfl, rfl, rfl, h3, r1003⟩ := trodAll_cons r1002
  obtain ⟨v4, vs4, d4, ds4, p4, q4, rfl, rfl, rfl, h4, r1004⟩ := trodAll_cons r1003
  obtain ⟨rfl, rfl, rfl⟩ := trodAll_nil r1004
  obtain rfl : args = #[v0, v1, v2, v3, v4] := by cases args; simp_all
  obtain ⟨rfl, rfl⟩ := trodVars_none hV
  have k0 := h0
  have lt0 : ∀ x ∈ p0, x.block < W.heap.size := by obtain ⟨m, hm⟩ := k0; exact DataW.trod_lt m _ _ _ hm
  have hv0 := hval 0 47 v0 rfl rfl
  obtain ⟨s0, t0, n0, X0, Y0, rfl, hs0, ht0⟩ := open_pairP (P := Try.prog) (t := 47) Try.underlying47 (by kernel_rfl) rfl rfl (by kernel_rfl) (by kernel_rfl) hv0 h0
  obtain ⟨l0, e0, _, w0⟩ := DataW.trod_int Try.underlying3 hs0
  simp at e0
  subst e0
  obtain ⟨a0, c0, x0, rfl, r0, m0, u0⟩ : ∃ (a : Option Addr) (c : Nat) (xs : List Int), t0 = .slice a xs.length c ∧ Row (Value.int .i64) W W.heap.size a xs ∧ xs.length ≤ maxLen ∧ ∀ x ∈ xs, (Lit.int .i64 x).wf = true := by
    rcases open_ints Try.underlying23 Try.underlying3 (by kernel_rfl) ht0 with ⟨hcs, _⟩ | ⟨x, l, c, zs, hcs, _, hl, hm, hz, _, hcell, hwz⟩
    · simp at hcs
      exact ⟨none, 0, [], hcs, Row.nil, Nat.zero_le _, fun x hx => by cases hx⟩
    · simp at hcs
      have hlz : l ≤ zs.length := by rw [hz]; split <;> omega
      have hzm : zs.length ≤ maxLen := by rw [hz]; split <;> omega
      obtain ⟨ys, hyl, hr, hym, hyw⟩ := row_of_cells (f := Value.int .i64) (zs := zs) (d := (0 : Int)) (p := fun z => (Lit.int .i64 z).wf = true) hlz hzm rfl hcell hwz
      exact ⟨some x, c, ys, by rw [hcs, hyl], hr, hym, hyw⟩
  have k1 := h1
  have lt1 : ∀ x ∈ p1, x.block < W.heap.size := by obtain ⟨m, hm⟩ := k1; exact DataW.trod_lt m _ _ _ hm
  have hv1 := hval 1 43 v1 rfl rfl
  obtain ⟨s1, t1, y1, n1, X1, Y1, Z1, rfl, hs1, ht1, hy1⟩ := open_trio (P := Try.prog) (t := 43) Try.underlying43 (by kernel_rfl) rfl rfl rfl (by kernel_rfl) (by kernel_rfl) (by kernel_rfl) hv1 h1
  obtain ⟨l1, e1, _, w1⟩ := DataW.trod_int Try.underlying3 hs1
  simp at e1
  subst e1
  obtain ⟨b1, e1, _, u1⟩ := DataW.trod_int Try.underlying3 hy1
  simp at e1
  subst e1
  obtain ⟨a1, c1, x1, rfl, r1, m1, q1⟩ := rowCW_of _ vg wf3 vg_v3 wf3_v3 Try.underlying41 (by kernel_rfl) flat60_ (by omega) ht1
  obtain ⟨a2, rfl, rfl, rfl, w2⟩ := open_int Try.underlying3 (hval 2 3 v2 rfl rfl) h2
  obtain ⟨a3, rfl, rfl, rfl, w3⟩ := open_int Try.underlying3 (hval 3 3 v3 rfl rfl) h3
  obtain ⟨a4, rfl, rfl, rfl, w4⟩ := open_int Try.underlying3 (hval 4 3 v4 rfl rfl) h4
  clear hA0
  refine (walk W l0 w0 a0 c0 x0 r0 m0 u0 l1 w1 a1 c1 x1 r1 m1 q1 b1 u1 a2 w2 a3 w3 a4 w4).mono fun e W' ⟨he, bel⟩ => ?_
  subst he
  exact ⟨_, rfl, _, _, _, [], _, [], hW', trodAll_mk1 (shut_bool Try.underlying4 _), (trodAll_cons_mk (Below.trod laidOut (by kernel_rfl) (of_decide_eq_true (by kernel_rfl)) k0 bel lt0) (trodAll_cons_mk (Below.trod laidOut (by kernel_rfl) (of_decide_eq_true (by kernel_rfl)) k1 bel lt1) (trodAll_cons_mk (shut_int Try.underlying3 w2) (trodAll_cons_mk (shut_int Try.underlying3 w3) (trodAll_cons_mk (shut_int Try.underlying3 w4) trodAll_mk0))))), rfl, bel.frame _, fun h => by cases h⟩

theorem proved : Rows.FnExactCachedLookupSaid :=
  OpenClaim.holds_of_wide 9 Try.f9 rfl rfl rfl rfl rfl rfl rfl ⟨rfl, rfl, rfl, rfl, rfl⟩ rfl rfl rfl rfl rfl (by kernel_rfl) Try.func9 (by kernel_rfl)
    (of_decide_eq_true (by kernel_rfl)) (by unfold Func.isWrapper; first | (rw [if_pos (by decide +kernel)]; kernel_rfl) | (rw [if_neg (by decide +kernel)]; exact ⟨rfl, rfl⟩))
    (fun os started H enc _ => lifted os started H enc)
#print axioms proved
end Go.Proofs.Ytaelhbbfddcabaa.fnExactCachedLookup
