/-
  Proved: the law FnExactUseTile returns true for every input and its arguments read behind the call as they read before. Conditions: none of our own; those of the given row alone.
-/
import Derived.Test.YtaelhbbfddcabaaRows
import Derived.WalkKit
import Derived.ProofKit
import Derived.OpenShut
import Derived.ShutString
import Derived.SliceStrings
import Derived.ChangeOld
import Derived.Below
import Derived.Test.YtaelhbbfddcabaaMem
import Derived.Test.YtaelhbbfddcabaaInts
import Derived.Test.YtaelhbbfddcabaaFlat
import Derived.Test.YtaelhbbfddcabaaVbox
import Derived.Test.YtaelhbbfddcabaaHeld
import Derived.Test.YtaelhbbfddcabaaRowC
import Derived.Test.YtaelhbbfddcabaaKS
import Derived.Test.YtaelhbbfddcabaaStrS
import Derived.Test.YtaelhbbfddcabaaIntS
import Derived.Test.YtaelhbbfddcabaaSS
import Derived.Test.YtaelhbbfddcabaaPg
import Derived.Test.YtaelhbbfddcabaaVi
import Derived.Test.YtaelhbbfddcabaaVa
import Derived.Test.YtaelhbbfddcabaaVb
import Derived.Test.YtaelhbbfddcabaaVc
import Derived.Test.YtaelhbbfddcabaaVd
import Derived.Test.YtaelhbbfddcabaaVe
import Derived.Test.YtaelhbbfddcabaaVf
import Derived.Test.YtaelhbbfddcabaaVg
import Derived.Test.YtaelhbbfddcabaaVh
import Derived.Test.YtaelhbbfddcabaaWa
import Derived.Test.YtaelhbbfddcabaaWb
import Derived.Test.YtaelhbbfddcabaaWc
import Derived.Test.YtaelhbbfddcabaaWd
import Derived.Test.YtaelhbbfddcabaaWe
import Derived.Test.YtaelhbbfddcabaaWf
import Derived.Test.YtaelhbbfddcabaaWg
import Derived.Test.YtaelhbbfddcabaaWh
import Derived.Test.YtaelhbbfddcabaaWm
import Derived.Test.YtaelhbbfddcabaaWn
import Derived.Test.YtaelhbbfddcabaaWq
import Derived.Test.YtaelhbbfddcabaaWr
import Derived.Deep.RegionHeld3
import Derived.Deep.DeepCutAuto
import Derived.Handy
namespace Go.Proofs.Ytaelhbbfddcabaa.fnExactUseTile
open Go.ChangeShapes Go.WideShapes Go.ChangeAt Go.RowKit
open Go.ChangeMaps (open_string shut_string)
set_option linter.unusedVariables false

theorem own : ownKnob Try.prog.godebug = none := by kernel_rfl
theorem laidOut : laidOutB Try.prog = true := by kernel_rfl
theorem flat3 : FlatI Try.prog 3 (Try.prog.cellsOf 3) := by rw [show Try.prog.cellsOf 3 = 1 by kernel_rfl]; exact flat1 Try.underlying3
theorem cells60 : Try.prog.cellsOf 60 = 3 := by kernel_rfl
theorem flat60_ : FlatI Try.prog 60 3 := flatS Try.underlying60 cells60 (by exact ⟨by kernel_rfl, flat3, ⟨by kernel_rfl, flat3, ⟨by kernel_rfl, flat3, by unfold FlatFs; kernel_rfl⟩⟩⟩)
theorem rowC_drew {W : World} {A : Option Addr} {xs : List V3} (h : RowC 3 vg W W.heap.size A xs) : RowC 3 vg W.drew W.drew.heap.size A xs := h.keep fun _ _ => rfl
theorem rowI_alloc {W : World} {A : Option Addr} {xs : List Int} (h : Row I64 W W.heap.size A xs) (o : Obj) : Row I64 (W.alloc o) (W.alloc o).heap.size A xs := (h.alloc (Nat.le_refl _) o).more (by simp)
theorem rowC_alloc {W : World} {A : Option Addr} {xs : List V3} (h : RowC 3 vg W W.heap.size A xs) (o : Obj) : RowC 3 vg (W.alloc o) (W.alloc o).heap.size A xs := (h.alloc (Nat.le_refl _) o).more (by simp)
theorem own_set3W {w : World} {base : Nat} {e : TypeId} {size n g : Nat} {v : Value} {xs : List Value} (h : w.ownsRow base e size v n xs) (hne : v.ownBlock ≠ some g) (x y z : Value) :
    (((w.setCell ⟨g, 0, none⟩ x).setCell ⟨g, 1, none⟩ y).setCell ⟨g, 2, none⟩ z).ownsRow base e size v n xs := ownsRow_setCell_other (ownsRow_setCell_other (ownsRow_setCell_other h (a := ⟨g, 0, none⟩) hne x) (a := ⟨g, 1, none⟩) hne y) (a := ⟨g, 2, none⟩) hne z
set_option maxRecDepth 100000 in
set_option maxHeartbeats 32000000 in
theorem walk (w : World) (l0 : Int) (w0 : (Lit.int .i64 l0).wf = true) (a0 : Option Addr) (c0 : Nat) (x0 : List V3) (r0 : RowC 3 vg w w.heap.size a0 x0) (m0 : x0.length ≤ maxLen) (q0 : ∀ z ∈ x0, wf3 z) (b0 : Int) (u0 : (Lit.int .i64 b0).wf = true) (a1_0 a1_1 a1_2 : Int) (w1_0 : (Lit.int .i64 a1_0).wf = true) (w1_1 : (Lit.int .i64 a1_1).wf = true) (w1_2 : (Lit.int .i64 a1_2).wf = true) :
    Calls Try.prog 8 #[.agg #[.int .i64 l0, .slice a0 x0.length c0, .int .i64 b0], .agg #[.int .i64 a1_0, .int .i64 a1_1, .int .i64 a1_2]] w fun e w' => e = .returned (.bool true) ∧ Below w.heap.size w w' := by
  have HIN := Lib.hid r0
  have HMX := Lib.hid m0
  have HWF := Lib.hid q0
  have HWX : Hid (wf3 (a1_0, a1_1, a1_2)) := Lib.hid ⟨w1_0, w1_1, w1_2⟩
  clear r0 m0 u0 w0 w1_0 w1_1 w1_2 q0
  have HT : Held w ((w.alloc (.cells #[.int .i64 l0, .slice a0 x0.length c0, .int .i64 b0] 43)).alloc (.cells #[.int .i64 a1_0, .int .i64 a1_1, .int .i64 a1_2] 60)) [(w.heap.size + 1, [.int .i64 a1_0, .int .i64 a1_1, .int .i64 a1_2]), (w.heap.size, [.int .i64 l0, .slice a0 x0.length c0, .int .i64 b0])] := by
    have h := ((Held.nil w).new #[.int .i64 l0, .slice a0 x0.length c0, .int .i64 b0] 43).new #[.int .i64 a1_0, .int .i64 a1_1, .int .i64 a1_2] 60
    simpa only [World.size_alloc] using h
  obtain ⟨W1, hW1⟩ : ∃ W, W = (w.alloc (.cells #[.int .i64 l0, .slice a0 x0.length c0, .int .i64 b0] 43)).alloc (.cells #[.int .i64 a1_0, .int .i64 a1_1, .int .i64 a1_2] 60) := ⟨_, rfl⟩
  rw [← hW1] at HT
  have HI := Lib.hid (fun W (h : Below w.heap.size w W) => (HIN.out.below h).more h.size)
  have HS0 := Lib.hid (szCache_any l0 a0 c0 x0 b0 1048576 W1 (by omega) (by have := HMX.out; unfold maxLen at this; omega))
  go_enter Try.func8, Try.ntmps8
  go_upto_region 2 with fail
  rw [← hW1]
  obtain ⟨k1, hk1⟩ : ∃ k, k = w.heap.size + 1 := ⟨_, rfl⟩
  obtain ⟨k0, hk0⟩ : ∃ k, k = w.heap.size := ⟨_, rfl⟩
  rw [← hk1, ← hk0] at HT
  rw [← hk1, ← hk0]
  have HKK := Lib.hid (And.intro hk0 hk1)
  have m0 := (HT.box 1).c 0
  have m1 := (HT.box 1).c 1
  have m2 := (HT.box 1).c 2
  clear hW1 hk1 hk0
  go_wp2_with fail
  refine HS0.out.mono ?_
  rintro e w2 ⟨hb2, hc⟩
  have HT := HT.later hb2
  clear hb2 HS0 m0 m1 m2
  rcases hc with ⟨hfit, rfl⟩ | ⟨hfit, rfl⟩
  · have hl : x0.length ≤ 1048576 := hfit
    obtain ⟨q, hq⟩ : ∃ q : Nat, q = 1048576 - x0.length := ⟨_, rfl⟩
    have hq0 : ¬ ((q : Nat) : Int) < 0 := by omega
    have hq1 : ((q : Nat) : Int) ≤ 1048576 := by omega
    rw [← hq]
    clear hq hfit
    obtain ⟨LL, hLL⟩ : ∃ l, l = l0 := ⟨_, rfl⟩
    obtain ⟨yy, hyy⟩ : ∃ y, y = useL l0 x0 b0 (a1_0, a1_1, a1_2) := ⟨_, rfl⟩
    obtain ⟨KK, hKK⟩ : ∃ y, y = useK l0 x0 b0 (a1_0, a1_1, a1_2) := ⟨_, rfl⟩
    have HSV := Lib.hid (fun W A (h : RowC 3 vg W W.heap.size A x0) => sUseTile_any l0 A x0.length x0 b0 a1_0 a1_1 a1_2 W h hl (Nat.le_refl _))
    have HIV := Lib.hid (fun W A (h : RowC 3 vg W W.heap.size A x0) => useTile_any l0 A x0.length x0 b0 a1_0 a1_1 a1_2 W h HWF.out HWX.out hl)
    have hyl : yy.length ≤ 1048577 := by rw [hyy]; have := useL_len l0 x0 b0 (a1_0, a1_1, a1_2); omega
    rw [← hyy, ← hKK] at HSV HIV
    have HSV : Hid (∀ W A, RowC 3 vg W W.heap.size A x0 → Calls Try.prog 37 #[cav l0 A x0.length x0.length b0, tlv a1_0 a1_1 a1_2] W (CaOut LL yy KK W)) := by rw [hLL]; exact HSV
    have HIV : Hid (∀ W A, RowC 3 vg W W.heap.size A x0 → Calls Try.prog 39 #[cav l0 A x0.length x0.length b0, tlv a1_0 a1_1 a1_2] W (CaOut LL yy KK W)) := by rw [hLL]; exact HIV
    have HLEN : Hid (x0.length ≤ 1048576 ∧ yy.length ≤ 1048577) := Lib.hid ⟨hl, hyl⟩
    have TC := Lib.hid (fun W (h : RowC 3 vg W W.heap.size a0 x0) => toCache_own l0 a0 c0 x0 b0 W h (by have := HLEN.out; omega))
    have HTL := Lib.hid (fun W => toTile_any a1_0 a1_1 a1_2 W)
    clear hLL hyy hKK hyl hl
    obtain ⟨Bq, hBq⟩ : ∃ B, B = w2.heap.size := ⟨_, rfl⟩
    have HCC : Hid (∀ W', Held w W' [(k1, [.int .i64 a1_0, .int .i64 a1_1, .int .i64 a1_2]), (k0, [.int .i64 l0, .slice a0 x0.length c0, .int .i64 b0])] → (W'.cell? ⟨k0, 0, none⟩ = some (.int .i64 l0) ∧ W'.cell? ⟨k0, 1, none⟩ = some (.slice a0 x0.length c0) ∧ W'.cell? ⟨k0, 2, none⟩ = some (.int .i64 b0) ∧ W'.cell? ⟨k1, 0, none⟩ = some (.int .i64 a1_0) ∧ W'.cell? ⟨k1, 1, none⟩ = some (.int .i64 a1_1) ∧ W'.cell? ⟨k1, 2, none⟩ = some (.int .i64 a1_2))) := Lib.hid (fun W' h => ⟨(h.box 1).c 0, (h.box 1).c 1, (h.box 1).c 2, (h.box 0).c 0, (h.box 0).c 1, (h.box 0).c 2⟩)
    have HBQ := Lib.hid (show k0 < Bq ∧ k1 < Bq ∧ w.heap.size ≤ Bq by have h1 := (HT.box 1).lt; have h2 := (HT.box 0).lt; have h3 := HT.size; omega)
    have HSZ0 := Lib.hid hBq
    have HC : ∀ W', Held w W' [(k1, [.int .i64 a1_0, .int .i64 a1_1, .int .i64 a1_2]), (k0, [.int .i64 l0, .slice a0 x0.length c0, .int .i64 b0])] → (W'.cell? ⟨k0, 0, none⟩ = some (.int .i64 l0) ∧ W'.cell? ⟨k0, 1, none⟩ = some (.slice a0 x0.length c0) ∧ W'.cell? ⟨k0, 2, none⟩ = some (.int .i64 b0) ∧ W'.cell? ⟨k1, 0, none⟩ = some (.int .i64 a1_0) ∧ W'.cell? ⟨k1, 1, none⟩ = some (.int .i64 a1_1) ∧ W'.cell? ⟨k1, 2, none⟩ = some (.int .i64 a1_2)) := fun W' h => HCC.out W' h
    have HQ := HT
    clear hBq
    go_upto_region 5 with fail
    go_cut [6] (fun yv wx => ∃ g A6 c6, yv = .pointer (some ⟨g, 0, none⟩) ∧ Held w wx ((g, [.int .i64 LL, .slice A6 yy.length c6, .int .i64 KK]) :: [(k1, [.int .i64 a1_0, .int .i64 a1_1, .int .i64 a1_2]), (k0, [.int .i64 l0, .slice a0 x0.length c0, .int .i64 b0])]) ∧ wx.ownsRow Bq 50 3 (.slice A6 yy.length c6) yy.length (yy.flatMap vg) ∧ Bq ≤ g ∧ (Value.slice A6 yy.length c6).ownBlock ≠ some g ∧ Below w2.heap.size w2 wx)
    case first =>
      have HQ := HQ.drew
      (try have HRQ := rowC_drew HRQ)
      refine wp_region_held_drew (S := fun W' => W'.cell? ⟨k0, 0, none⟩ = some (.int .i64 l0) ∧ W'.cell? ⟨k0, 1, none⟩ = some (.slice a0 x0.length c0) ∧ W'.cell? ⟨k0, 2, none⟩ = some (.int .i64 b0) ∧ W'.cell? ⟨k1, 0, none⟩ = some (.int .i64 a1_0) ∧ W'.cell? ⟨k1, 1, none⟩ = some (.int .i64 a1_1) ∧ W'.cell? ⟨k1, 2, none⟩ = some (.int .i64 a1_2)) (by kernel_rfl) (HC _ HQ) (fun hHeld => ?_)
      obtain ⟨wd, hwd⟩ : ∃ x, x = w2.drew := ⟨_, rfl⟩
      have HSZ : Hid (Bq ≤ wd.heap.size) := Lib.hid (by rw [hwd, HSZ0.out]; exact Nat.le_refl _)
      have HBW : Hid (Below Bq w2 wd) := Lib.hid (by rw [hwd]; exact (Below.refl _ _).drew)
      rw [← hwd] at HQ hHeld ⊢
      (try rw [← hwd] at HRQ)
      clear hwd
      refine wpAnyH_take (i := 0) (oi := { dst := some 18, op := Op.load 43 (Operand.tmp 2), type := 43, pos := "exact.go:4900", after := #[], guard := none }) (v := ?_) rfl (by kernel_rfl) (by kernel_rfl) (by kernel_rfl) (fun _ _ _ h => h) (Or.inl ⟨by rfl, ?_⟩) (by assumption) ?_
      rotate_left 1
      · (intro w hSw; (try dsimp only at hSw); go_simp <;> with_reducible rfl)
      (try simp only [Act.put, List.setIfInBounds_toArray, List.set_cons_zero, List.set_cons_succ])
      refine wpAnyH_take (i := 2) (oi := { dst := some 20, op := Op.load 60 (Operand.tmp 3), type := 60, pos := "exact.go:4900", after := #[], guard := none }) (v := ?_) rfl (by kernel_rfl) (by kernel_rfl) (by kernel_rfl) (fun _ _ _ h => h) (Or.inl ⟨by rfl, ?_⟩) (by assumption) ?_
      rotate_left 1
      · (intro w hSw; (try dsimp only at hSw); go_simp <;> with_reducible rfl)
      (try simp only [Act.put, List.setIfInBounds_toArray, List.set_cons_zero, List.set_cons_succ])
      refine wpAnyH_ready (rs := [1, 5]) (by kernel_rfl) (by simp) ?_
      refine AllReadyH.cons (o := { dst := some 19, op := Op.call { callee := Callee.value (Operand.func 24), args := #[Operand.tmp 18], argTypes := #[43] }, type := 29, pos := "exact.go:4900", after := #[{ on := 0, ground := Ground.data }], guard := none }) rfl (fun K hK => ?_) ?_
      · go_simp
        (with_reducible refine (TC.out _ (HI.out _ HQ.below)).mono ?_)
        rintro e wd ⟨g6, rfl, _, ho6, hb7⟩
        have HQ := HQ.later hb7
        (try have HRT := HRT.later hb7)
        have HRQ := (RowC.of_own vg_len ho6 rfl : RowC 3 vg wd wd.heap.size (some ⟨g6, 0, none⟩) x0)
        have HBW := Lib.hid (HBW.out.trans (hb7.mono HSZ.out))
        have HSZ := Lib.hid (Nat.le_trans HSZ.out hb7.size)
        clear ho6 hb7
        (try go_wp2_with fail)
        refine hK.out _ _ (by (try dsimp only); (first | with_reducible exact HC _ HQ | with_reducible exact HC _ HQ.tail)) (fun hHeld => ?_)
        clear hK K
        (try simp only [Act.put, List.setIfInBounds_toArray, List.set_cons_zero, List.set_cons_succ])
        refine wpAnyH_ready (rs := [3, 5]) (by kernel_rfl) (by simp) ?_
        refine AllReadyH.cons (o := { dst := some 21, op := Op.call { callee := Callee.value (Operand.func 38), args := #[Operand.tmp 20], argTypes := #[60] }, type := 50, pos := "exact.go:4900", after := #[{ on := 2, ground := Ground.data }, { on := 1, ground := Ground.chain }], guard := none }) rfl (fun K hK => ?_) ?_
        · go_simp
          (with_reducible refine (HTL.out _).mono ?_)
          rintro e wd ⟨rfl, hb7⟩
          have HQ := HQ.later hb7
          have HRQ := HRQ.later hb7
          have HBW := Lib.hid (HBW.out.trans (hb7.mono HSZ.out))
          have HSZ := Lib.hid (Nat.le_trans HSZ.out hb7.size)
          clear hb7
          (try go_wp2_with fail)
          refine hK.out _ _ (by (try dsimp only); (first | with_reducible exact HC _ HQ | with_reducible exact HC _ HQ.tail)) (fun hHeld => ?_)
          clear hK K
          (try simp only [Act.put, List.setIfInBounds_toArray, List.set_cons_zero, List.set_cons_succ])
          refine wpAnyH_ready (rs := [4, 5]) (by kernel_rfl) (by simp) ?_
          refine AllReadyH.cons (o := { dst := some 22, op := Op.call { callee := Callee.value (Operand.func 37), args := #[Operand.tmp 19, Operand.tmp 21], argTypes := #[29, 50] }, type := 29, pos := "exact.go:4900", after := #[{ on := 1, ground := Ground.data }, { on := 3, ground := Ground.data }, { on := 3, ground := Ground.chain }], guard := none }) rfl (fun K hK => ?_) ?_
          · go_simp
            (with_reducible refine (HSV.out _ _ HRQ).mono ?_)
            rintro e wd ⟨A6, c6, rfl, ho6, hb7⟩
            (try have HNV : Hid (Value.ownBlock (.slice A6 yy.length c6) ≠ some g) := Lib.hid (fun e => by have h1 := own_block ho6 g e; have h2 := (HQ.box 0).lt; omega))
            have HQ := HQ.later hb7
            have HO := Lib.hid (own_base ho6 HSZ.out)
            have HBW := Lib.hid (HBW.out.trans (hb7.mono HSZ.out))
            have HSZ := Lib.hid (Nat.le_trans HSZ.out hb7.size)
            clear ho6 hb7 HRQ
            (try go_wp2_with fail)
            refine hK.out _ _ (by (try dsimp only); (first | with_reducible exact HC _ HQ | with_reducible exact HC _ HQ.tail)) (fun hHeld => ?_)
            clear hK K
            (try simp only [Act.put, List.setIfInBounds_toArray, List.set_cons_zero, List.set_cons_succ])
            refine wpAnyH_ready (rs := [5]) (by kernel_rfl) (by simp) ?_
            refine AllReadyH.cons (o := { dst := some 6, op := Op.alloc 29, type := 0, pos := "exact.go:4900", after := #[], guard := none }) rfl (fun K hK => ?_) ?_
            · go_simp
              (try have HNV0 := fun q (e : Value.ownBlock _ = some q) => (HO.out.lt q e).2)
              have HQ := HQ.new #[.int .i64 0, .slice none 0 0, .int .i64 0] 29
              (try have HO := Lib.hid (HO.out.alloc (.cells #[.int .i64 0, .slice none 0 0, .int .i64 0] 29)))
              (try have HRQ := rowC_alloc HRQ (.cells #[.int .i64 0, .slice none 0 0, .int .i64 0] 29))
              (try have HRT := rowI_alloc HRT (.cells #[.int .i64 0, .slice none 0 0, .int .i64 0] 29))
              refine hK.out _ _ (by (try dsimp only); (first | with_reducible exact HC _ HQ | with_reducible exact HC _ HQ.tail)) (fun hHeld => ?_)
              obtain ⟨wn, hwn⟩ : ∃ W, W = wd.alloc (.cells #[.int .i64 0, .slice none 0 0, .int .i64 0] 29) := ⟨_, rfl⟩
              obtain ⟨g, hg⟩ : ∃ k, k = wd.heap.size := ⟨_, rfl⟩
              have HGB := Lib.hid (show Bq ≤ g by rw [hg]; exact HSZ.out)
              have HBW := Lib.hid (HBW.out.alloc HSZ.out (.cells #[.int .i64 0, .slice none 0 0, .int .i64 0] 29))
              have HSZ : Hid (Bq ≤ (wd.alloc (.cells #[.int .i64 0, .slice none 0 0, .int .i64 0] 29)).heap.size) := Lib.hid (by have := HSZ.out; simp; omega)
              rw [← hwn] at HQ HSZ HBW hHeld ⊢
              (try rw [← hwn] at HO)
              (try rw [← hwn] at HRQ)
              (try rw [← hwn] at HRT)
              rw [← hg] at HQ ⊢
              (try rw [← hg] at HNV0)
              (try have HNV := Lib.hid (fun (e : Value.ownBlock _ = some g) => Nat.lt_irrefl _ (HNV0 g e)))
              (try clear HNV0)
              clear hwn hg
              clear hK K
              (try simp only [Act.put, List.setIfInBounds_toArray, List.set_cons_zero, List.set_cons_succ])
              refine wpAnyH_ready (rs := [6]) (by kernel_rfl) (by simp) ?_
              refine AllReadyH.cons (o := { dst := none, op := Op.store 29 (Operand.tmp 6) (Operand.tmp 22), type := 0, pos := "exact.go:4900", after := #[{ on := 5, ground := Ground.data }, { on := 4, ground := Ground.data }, { on := 4, ground := Ground.chain }, { on := 0, ground := Ground.phase }, { on := 1, ground := Ground.phase }, { on := 2, ground := Ground.phase }, { on := 3, ground := Ground.phase }, { on := 4, ground := Ground.phase }, { on := 5, ground := Ground.phase }], guard := none }) rfl (fun K hK => ?_) ?_
              · have c60 := (HQ.box 0).c 0
                have c61 := (HQ.box 0).c 1
                have c62 := (HQ.box 0).c 2
                have f60 := (HQ.box 0).f 0
                have f61 := (HQ.box 0).f 1
                have f62 := (HQ.box 0).f 2
                go_simp
                clear c60 c61 c62 f60 f61 f62
                have HQ := ((HQ.put (by have h1 := HGB.out; have h2 := HBQ.out; omega) (fun p hp => by (have h1 := HGB.out; have h2 := HBQ.out; simp only [List.mem_cons, List.not_mem_nil, or_false] at hp; rcases hp with rfl | rfl <;> (show _ ≠ _) <;> omega)) 0 (.int .i64 LL)).put (by have h1 := HGB.out; have h2 := HBQ.out; omega) (fun p hp => by (have h1 := HGB.out; have h2 := HBQ.out; simp only [List.mem_cons, List.not_mem_nil, or_false] at hp; rcases hp with rfl | rfl <;> (show _ ≠ _) <;> omega)) 1 (.slice A6 yy.length c6)).put (by have h1 := HGB.out; have h2 := HBQ.out; omega) (fun p hp => by (have h1 := HGB.out; have h2 := HBQ.out; simp only [List.mem_cons, List.not_mem_nil, or_false] at hp; rcases hp with rfl | rfl <;> (show _ ≠ _) <;> omega)) 2 (.int .i64 KK)
                have HO := Lib.hid (own_set3W HO.out HNV.out (.int .i64 LL) (.slice A6 yy.length c6) (.int .i64 KK))
                have HBW := Lib.hid (((HBW.out.setCell (p := ⟨g, 0, none⟩) HGB.out (.int .i64 LL)).setCell (p := ⟨g, 1, none⟩) HGB.out (.slice A6 yy.length c6)).setCell (p := ⟨g, 2, none⟩) HGB.out (.int .i64 KK))
                refine hK.out _ _ (by (try dsimp only); exact HC _ HQ.tail) (fun hHeld => ?_)
                clear hK K
                (try simp only [Act.put, List.setIfInBounds_toArray, List.set_cons_zero, List.set_cons_succ])
                refine wpAnyH_done (by kernel_rfl) ?_ _
                clear hHeld
                go_wp2
                go_meet
                exact ⟨_, A6, c6, rfl, HQ, HO.out, HGB.out, HNV.out, by rw [← HSZ0.out]; exact HBW.out⟩
              exact AllReadyH.nil
            exact AllReadyH.nil
          refine AllReadyH.cons (o := { dst := some 6, op := Op.alloc 29, type := 0, pos := "exact.go:4900", after := #[], guard := none }) rfl (fun K hK => ?_) ?_
          · go_simp
            (try have HNV0 := fun q (e : Value.ownBlock _ = some q) => (HO.out.lt q e).2)
            have HQ := HQ.new #[.int .i64 0, .slice none 0 0, .int .i64 0] 29
            (try have HO := Lib.hid (HO.out.alloc (.cells #[.int .i64 0, .slice none 0 0, .int .i64 0] 29)))
            (try have HRQ := rowC_alloc HRQ (.cells #[.int .i64 0, .slice none 0 0, .int .i64 0] 29))
            (try have HRT := rowI_alloc HRT (.cells #[.int .i64 0, .slice none 0 0, .int .i64 0] 29))
            refine hK.out _ _ (by (try dsimp only); (first | with_reducible exact HC _ HQ | with_reducible exact HC _ HQ.tail)) (fun hHeld => ?_)
            obtain ⟨wn, hwn⟩ : ∃ W, W = wd.alloc (.cells #[.int .i64 0, .slice none 0 0, .int .i64 0] 29) := ⟨_, rfl⟩
            obtain ⟨g, hg⟩ : ∃ k, k = wd.heap.size := ⟨_, rfl⟩
            have HGB := Lib.hid (show Bq ≤ g by rw [hg]; exact HSZ.out)
            have HBW := Lib.hid (HBW.out.alloc HSZ.out (.cells #[.int .i64 0, .slice none 0 0, .int .i64 0] 29))
            have HSZ : Hid (Bq ≤ (wd.alloc (.cells #[.int .i64 0, .slice none 0 0, .int .i64 0] 29)).heap.size) := Lib.hid (by have := HSZ.out; simp; omega)
            rw [← hwn] at HQ HSZ HBW hHeld ⊢
            (try rw [← hwn] at HO)
            (try rw [← hwn] at HRQ)
            (try rw [← hwn] at HRT)
            rw [← hg] at HQ ⊢
            (try rw [← hg] at HNV0)
            (try have HNV := Lib.hid (fun (e : Value.ownBlock _ = some g) => Nat.lt_irrefl _ (HNV0 g e)))
            (try clear HNV0)
            clear hwn hg
            clear hK K
            (try simp only [Act.put, List.setIfInBounds_toArray, List.set_cons_zero, List.set_cons_succ])
            refine wpAnyH_ready (rs := [4]) (by kernel_rfl) (by simp) ?_
            refine AllReadyH.cons (o := { dst := some 22, op := Op.call { callee := Callee.value (Operand.func 37), args := #[Operand.tmp 19, Operand.tmp 21], argTypes := #[29, 50] }, type := 29, pos := "exact.go:4900", after := #[{ on := 1, ground := Ground.data }, { on := 3, ground := Ground.data }, { on := 3, ground := Ground.chain }], guard := none }) rfl (fun K hK => ?_) ?_
            · go_simp
              (with_reducible refine (HSV.out _ _ HRQ).mono ?_)
              rintro e wd ⟨A6, c6, rfl, ho6, hb7⟩
              (try have HNV : Hid (Value.ownBlock (.slice A6 yy.length c6) ≠ some g) := Lib.hid (fun e => by have h1 := own_block ho6 g e; have h2 := (HQ.box 0).lt; omega))
              have HQ := HQ.later hb7
              have HO := Lib.hid (own_base ho6 HSZ.out)
              have HBW := Lib.hid (HBW.out.trans (hb7.mono HSZ.out))
              have HSZ := Lib.hid (Nat.le_trans HSZ.out hb7.size)
              clear ho6 hb7 HRQ
              (try go_wp2_with fail)
              refine hK.out _ _ (by (try dsimp only); (first | with_reducible exact HC _ HQ | with_reducible exact HC _ HQ.tail)) (fun hHeld => ?_)
              clear hK K
              (try simp only [Act.put, List.setIfInBounds_toArray, List.set_cons_zero, List.set_cons_succ])
              refine wpAnyH_ready (rs := [6]) (by kernel_rfl) (by simp) ?_
              refine AllReadyH.cons (o := { dst := none, op := Op.store 29 (Operand.tmp 6) (Operand.tmp 22), type := 0, pos := "exact.go:4900", after := #[{ on := 5, ground := Ground.data }, { on := 4, ground := Ground.data }, { on := 4, ground := Ground.chain }, { on := 0, ground := Ground.phase }, { on := 1, ground := Ground.phase }, { on := 2, ground := Ground.phase }, { on := 3, ground := Ground.phase }, { on := 4, ground := Ground.phase }, { on := 5, ground := Ground.phase }], guard := none }) rfl (fun K hK => ?_) ?_
              · have c60 := (HQ.box 0).c 0
                have c61 := (HQ.box 0).c 1
                have c62 := (HQ.box 0).c 2
                have f60 := (HQ.box 0).f 0
                have f61 := (HQ.box 0).f 1
                have f62 := (HQ.box 0).f 2
                go_simp
                clear c60 c61 c62 f60 f61 f62
                have HQ := ((HQ.put (by have h1 := HGB.out; have h2 := HBQ.out; omega) (fun p hp => by (have h1 := HGB.out; have h2 := HBQ.out; simp only [List.mem_cons, List.not_mem_nil, or_false] at hp; rcases hp with rfl | rfl <;> (show _ ≠ _) <;> omega)) 0 (.int .i64 LL)).put (by have h1 := HGB.out; have h2 := HBQ.out; omega) (fun p hp => by (have h1 := HGB.out; have h2 := HBQ.out; simp only [List.mem_cons, List.not_mem_nil, or_false] at hp; rcases hp with rfl | rfl <;> (show _ ≠ _) <;> omega)) 1 (.slice A6 yy.length c6)).put (by have h1 := HGB.out; have h2 := HBQ.out; omega) (fun p hp => by (have h1 := HGB.out; have h2 := HBQ.out; simp only [List.mem_cons, List.not_mem_nil, or_false] at hp; rcases hp with rfl | rfl <;> (show _ ≠ _) <;> omega)) 2 (.int .i64 KK)
                have HO := Lib.hid (own_set3W HO.out HNV.out (.int .i64 LL) (.slice A6 yy.length c6) (.int .i64 KK))
                have HBW := Lib.hid (((HBW.out.setCell (p := ⟨g, 0, none⟩) HGB.out (.int .i64 LL)).setCell (p := ⟨g, 1, none⟩) HGB.out (.slice A6 yy.length c6)).setCell (p := ⟨g, 2, none⟩) HGB.out (.int .i64 KK))
                refine hK.out _ _ (by (try dsimp only); exact HC _ HQ.tail) (fun hHeld => ?_)
                clear hK K
                (try simp only [Act.put, List.setIfInBounds_toArray, List.set_cons_zero, List.set_cons_succ])
                refine wpAnyH_done (by kernel_rfl) ?_ _
                clear hHeld
                go_wp2
                go_meet
                exact ⟨_, A6, c6, rfl, HQ, HO.out, HGB.out, HNV.out, by rw [← HSZ0.out]; exact HBW.out⟩
              exact AllReadyH.nil
            exact AllReadyH.nil
          exact AllReadyH.nil
        refine AllReadyH.cons (o := { dst := some 6, op := Op.alloc 29, type := 0, pos := "exact.go:4900", after := #[], guard := none }) rfl (fun K hK => ?_) ?_
        · go_simp
          (try have HNV0 := fun q (e : Value.ownBlock _ = some q) => (HO.out.lt q e).2)
          have HQ := HQ.new #[.int .i64 0, .slice none 0 0, .int .i64 0] 29
          (try have HO := Lib.hid (HO.out.alloc (.cells #[.int .i64 0, .slice none 0 0, .int .i64 0] 29)))
          (try have HRQ := rowC_alloc HRQ (.cells #[.int .i64 0, .slice none 0 0, .int .i64 0] 29))
          (try have HRT := rowI_alloc HRT (.cells #[.int .i64 0, .slice none 0 0, .int .i64 0] 29))
          refine hK.out _ _ (by (try dsimp only); (first | with_reducible exact HC _ HQ | with_reducible exact HC _ HQ.tail)) (fun hHeld => ?_)
          obtain ⟨wn, hwn⟩ : ∃ W, W = wd.alloc (.cells #[.int .i64 0, .slice none 0 0, .int .i64 0] 29) := ⟨_, rfl⟩
          obtain ⟨g, hg⟩ : ∃ k, k = wd.heap.size := ⟨_, rfl⟩
          have HGB := Lib.hid (show Bq ≤ g by rw [hg]; exact HSZ.out)
          have HBW := Lib.hid (HBW.out.alloc HSZ.out (.cells #[.int .i64 0, .slice none 0 0, .int .i64 0] 29))
          have HSZ : Hid (Bq ≤ (wd.alloc (.cells #[.int .i64 0, .slice none 0 0, .int .i64 0] 29)).heap.size) := Lib.hid (by have := HSZ.out; simp; omega)
          rw [← hwn] at HQ HSZ HBW hHeld ⊢
          (try rw [← hwn] at HO)
          (try rw [← hwn] at HRQ)
          (try rw [← hwn] at HRT)
          rw [← hg] at HQ ⊢
          (try rw [← hg] at HNV0)
          (try have HNV := Lib.hid (fun (e : Value.ownBlock _ = some g) => Nat.lt_irrefl _ (HNV0 g e)))
          (try clear HNV0)
          clear hwn hg
          clear hK K
          (try simp only [Act.put, List.setIfInBounds_toArray, List.set_cons_zero, List.set_cons_succ])
          refine wpAnyH_ready (rs := [3]) (by kernel_rfl) (by simp) ?_
          refine AllReadyH.cons (o := { dst := some 21, op := Op.call { callee := Callee.value (Operand.func 38), args := #[Operand.tmp 20], argTypes := #[60] }, type := 50, pos := "exact.go:4900", after := #[{ on := 2, ground := Ground.data }, { on := 1, ground := Ground.chain }], guard := none }) rfl (fun K hK => ?_) ?_
          · go_simp
            (with_reducible refine (HTL.out _).mono ?_)
            rintro e wd ⟨rfl, hb7⟩
            have HQ := HQ.later hb7
            have HRQ := HRQ.later hb7
            have HBW := Lib.hid (HBW.out.trans (hb7.mono HSZ.out))
            have HSZ := Lib.hid (Nat.le_trans HSZ.out hb7.size)
            clear hb7
            (try go_wp2_with fail)
            refine hK.out _ _ (by (try dsimp only); (first | with_reducible exact HC _ HQ | with_reducible exact HC _ HQ.tail)) (fun hHeld => ?_)
            clear hK K
            (try simp only [Act.put, List.setIfInBounds_toArray, List.set_cons_zero, List.set_cons_succ])
            refine wpAnyH_ready (rs := [4]) (by kernel_rfl) (by simp) ?_
            refine AllReadyH.cons (o := { dst := some 22, op := Op.call { callee := Callee.value (Operand.func 37), args := #[Operand.tmp 19, Operand.tmp 21], argTypes := #[29, 50] }, type := 29, pos := "exact.go:4900", after := #[{ on := 1, ground := Ground.data }, { on := 3, ground := Ground.data }, { on := 3, ground := Ground.chain }], guard := none }) rfl (fun K hK => ?_) ?_
            · go_simp
              (with_reducible refine (HSV.out _ _ HRQ).mono ?_)
              rintro e wd ⟨A6, c6, rfl, ho6, hb7⟩
              (try have HNV : Hid (Value.ownBlock (.slice A6 yy.length c6) ≠ some g) := Lib.hid (fun e => by have h1 := own_block ho6 g e; have h2 := (HQ.box 0).lt; omega))
              have HQ := HQ.later hb7
              have HO := Lib.hid (own_base ho6 HSZ.out)
              have HBW := Lib.hid (HBW.out.trans (hb7.mono HSZ.out))
              have HSZ := Lib.hid (Nat.le_trans HSZ.out hb7.size)
              clear ho6 hb7 HRQ
              (try go_wp2_with fail)
              refine hK.out _ _ (by (try dsimp only); (first | with_reducible exact HC _ HQ | with_reducible exact HC _ HQ.tail)) (fun hHeld => ?_)
              clear hK K
              (try simp only [Act.put, List.setIfInBounds_toArray, List.set_cons_zero, List.set_cons_succ])
              refine wpAnyH_ready (rs := [6]) (by kernel_rfl) (by simp) ?_
              refine AllReadyH.cons (o := { dst := none, op := Op.store 29 (Operand.tmp 6) (Operand.tmp 22), type := 0, pos := "exact.go:4900", after := #[{ on := 5, ground := Ground.data }, { on := 4, ground := Ground.data }, { on := 4, ground := Ground.chain }, { on := 0, ground := Ground.phase }, { on := 1, ground := Ground.phase }, { on := 2, ground := Ground.phase }, { on := 3, ground := Ground.phase }, { on := 4, ground := Ground.phase }, { on := 5, ground := Ground.phase }], guard := none }) rfl (fun K hK => ?_) ?_
              · have c60 := (HQ.box 0).c 0
                have c61 := (HQ.box 0).c 1
                have c62 := (HQ.box 0).c 2
                have f60 := (HQ.box 0).f 0
                have f61 := (HQ.box 0).f 1
                have f62 := (HQ.box 0).f 2
                go_simp
                clear c60 c61 c62 f60 f61 f62
                have HQ := ((HQ.put (by have h1 := HGB.out; have h2 := HBQ.out; omega) (fun p hp => by (have h1 := HGB.out; have h2 := HBQ.out; simp only [List.mem_cons, List.not_mem_nil, or_false] at hp; rcases hp with rfl | rfl <;> (show _ ≠ _) <;> omega)) 0 (.int .i64 LL)).put (by have h1 := HGB.out; have h2 := HBQ.out; omega) (fun p hp => by (have h1 := HGB.out; have h2 := HBQ.out; simp only [List.mem_cons, List.not_mem_nil, or_false] at hp; rcases hp with rfl | rfl <;> (show _ ≠ _) <;> omega)) 1 (.slice A6 yy.length c6)).put (by have h1 := HGB.out; have h2 := HBQ.out; omega) (fun p hp => by (have h1 := HGB.out; have h2 := HBQ.out; simp only [List.mem_cons, List.not_mem_nil, or_false] at hp; rcases hp with rfl | rfl <;> (show _ ≠ _) <;> omega)) 2 (.int .i64 KK)
                have HO := Lib.hid (own_set3W HO.out HNV.out (.int .i64 LL) (.slice A6 yy.length c6) (.int .i64 KK))
                have HBW := Lib.hid (((HBW.out.setCell (p := ⟨g, 0, none⟩) HGB.out (.int .i64 LL)).setCell (p := ⟨g, 1, none⟩) HGB.out (.slice A6 yy.length c6)).setCell (p := ⟨g, 2, none⟩) HGB.out (.int .i64 KK))
                refine hK.out _ _ (by (try dsimp only); exact HC _ HQ.tail) (fun hHeld => ?_)
                clear hK K
                (try simp only [Act.put, List.setIfInBounds_toArray, List.set_cons_zero, List.set_cons_succ])
                refine wpAnyH_done (by kernel_rfl) ?_ _
                clear hHeld
                go_wp2
                go_meet
                exact ⟨_, A6, c6, rfl, HQ, HO.out, HGB.out, HNV.out, by rw [← HSZ0.out]; exact HBW.out⟩
              exact AllReadyH.nil
            exact AllReadyH.nil
          exact AllReadyH.nil
        exact AllReadyH.nil
      refine AllReadyH.cons (o := { dst := some 6, op := Op.alloc 29, type := 0, pos := "exact.go:4900", after := #[], guard := none }) rfl (fun K hK => ?_) ?_
      · go_simp
        (try have HNV0 := fun q (e : Value.ownBlock _ = some q) => (HO.out.lt q e).2)
        have HQ := HQ.new #[.int .i64 0, .slice none 0 0, .int .i64 0] 29
        (try have HO := Lib.hid (HO.out.alloc (.cells #[.int .i64 0, .slice none 0 0, .int .i64 0] 29)))
        (try have HRQ := rowC_alloc HRQ (.cells #[.int .i64 0, .slice none 0 0, .int .i64 0] 29))
        (try have HRT := rowI_alloc HRT (.cells #[.int .i64 0, .slice none 0 0, .int .i64 0] 29))
        refine hK.out _ _ (by (try dsimp only); (first | with_reducible exact HC _ HQ | with_reducible exact HC _ HQ.tail)) (fun hHeld => ?_)
        obtain ⟨wn, hwn⟩ : ∃ W, W = wd.alloc (.cells #[.int .i64 0, .slice none 0 0, .int .i64 0] 29) := ⟨_, rfl⟩
        obtain ⟨g, hg⟩ : ∃ k, k = wd.heap.size := ⟨_, rfl⟩
        have HGB := Lib.hid (show Bq ≤ g by rw [hg]; exact HSZ.out)
        have HBW := Lib.hid (HBW.out.alloc HSZ.out (.cells #[.int .i64 0, .slice none 0 0, .int .i64 0] 29))
        have HSZ : Hid (Bq ≤ (wd.alloc (.cells #[.int .i64 0, .slice none 0 0, .int .i64 0] 29)).heap.size) := Lib.hid (by have := HSZ.out; simp; omega)
        rw [← hwn] at HQ HSZ HBW hHeld ⊢
        (try rw [← hwn] at HO)
        (try rw [← hwn] at HRQ)
        (try rw [← hwn] at HRT)
        rw [← hg] at HQ ⊢
        (try rw [← hg] at HNV0)
        (try have HNV := Lib.hid (fun (e : Value.ownBlock _ = some g) => Nat.lt_irrefl _ (HNV0 g e)))
        (try clear HNV0)
        clear hwn hg
        clear hK K
        (try simp only [Act.put, List.setIfInBounds_toArray, List.set_cons_zero, List.set_cons_succ])
        refine wpAnyH_ready (rs := [1]) (by kernel_rfl) (by simp) ?_
        refine AllReadyH.cons (o := { dst := some 19, op := Op.call { callee := Callee.value (Operand.func 24), args := #[Operand.tmp 18], argTypes := #[43] }, type := 29, pos := "exact.go:4900", after := #[{ on := 0, ground := Ground.data }], guard := none }) rfl (fun K hK => ?_) ?_
        · go_simp
          (with_reducible refine (TC.out _ (HI.out _ HQ.below)).mono ?_)
          rintro e wd ⟨g6, rfl, _, ho6, hb7⟩
          have HQ := HQ.later hb7
          (try have HRT := HRT.later hb7)
          have HRQ := (RowC.of_own vg_len ho6 rfl : RowC 3 vg wd wd.heap.size (some ⟨g6, 0, none⟩) x0)
          have HBW := Lib.hid (HBW.out.trans (hb7.mono HSZ.out))
          have HSZ := Lib.hid (Nat.le_trans HSZ.out hb7.size)
          clear ho6 hb7
          (try go_wp2_with fail)
          refine hK.out _ _ (by (try dsimp only); (first | with_reducible exact HC _ HQ | with_reducible exact HC _ HQ.tail)) (fun hHeld => ?_)
          clear hK K
          (try simp only [Act.put, List.setIfInBounds_toArray, List.set_cons_zero, List.set_cons_succ])
          refine wpAnyH_ready (rs := [3]) (by kernel_rfl) (by simp) ?_
          refine AllReadyH.cons (o := { dst := some 21, op := Op.call { callee := Callee.value (Operand.func 38), args := #[Operand.tmp 20], argTypes := #[60] }, type := 50, pos := "exact.go:4900", after := #[{ on := 2, ground := Ground.data }, { on := 1, ground := Ground.chain }], guard := none }) rfl (fun K hK => ?_) ?_
          · go_simp
            (with_reducible refine (HTL.out _).mono ?_)
            rintro e wd ⟨rfl, hb7⟩
            have HQ := HQ.later hb7
            have HRQ := HRQ.later hb7
            have HBW := Lib.hid (HBW.out.trans (hb7.mono HSZ.out))
            have HSZ := Lib.hid (Nat.le_trans HSZ.out hb7.size)
            clear hb7
            (try go_wp2_with fail)
            refine hK.out _ _ (by (try dsimp only); (first | with_reducible exact HC _ HQ | with_reducible exact HC _ HQ.tail)) (fun hHeld => ?_)
            clear hK K
            (try simp only [Act.put, List.setIfInBounds_toArray, List.set_cons_zero, List.set_cons_succ])
            refine wpAnyH_ready (rs := [4]) (by kernel_rfl) (by simp) ?_
            refine AllReadyH.cons (o := { dst := some 22, op := Op.call { callee := Callee.value (Operand.func 37), args := #[Operand.tmp 19, Operand.tmp 21], argTypes := #[29, 50] }, type := 29, pos := "exact.go:4900", after := #[{ on := 1, ground := Ground.data }, { on := 3, ground := Ground.data }, { on := 3, ground := Ground.chain }], guard := none }) rfl (fun K hK => ?_) ?_
            · go_simp
              (with_reducible refine (HSV.out _ _ HRQ).mono ?_)
              rintro e wd ⟨A6, c6, rfl, ho6, hb7⟩
              (try have HNV : Hid (Value.ownBlock (.slice A6 yy.length c6) ≠ some g) := Lib.hid (fun e => by have h1 := own_block ho6 g e; have h2 := (HQ.box 0).lt; omega))
              have HQ := HQ.later hb7
              have HO := Lib.hid (own_base ho6 HSZ.out)
              have HBW := Lib.hid (HBW.out.trans (hb7.mono HSZ.out))
              have HSZ := Lib.hid (Nat.le_trans HSZ.out hb7.size)
              clear ho6 hb7 HRQ
              (try go_wp2_with fail)
              refine hK.out _ _ (by (try dsimp only); (first | with_reducible exact HC _ HQ | with_reducible exact HC _ HQ.tail)) (fun hHeld => ?_)
              clear hK K
              (try simp only [Act.put, List.setIfInBounds_toArray, List.set_cons_zero, List.set_cons_succ])
              refine wpAnyH_ready (rs := [6]) (by kernel_rfl) (by simp) ?_
              refine AllReadyH.cons (o := { dst := none, op := Op.store 29 (Operand.tmp 6) (Operand.tmp 22), type := 0, pos := "exact.go:4900", after := #[{ on := 5, ground := Ground.data }, { on := 4, ground := Ground.data }, { on := 4, ground := Ground.chain }, { on := 0, ground := Ground.phase }, { on := 1, ground := Ground.phase }, { on := 2, ground := Ground.phase }, { on := 3, ground := Ground.phase }, { on := 4, ground := Ground.phase }, { on := 5, ground := Ground.phase }], guard := none }) rfl (fun K hK => ?_) ?_
              · have c60 := (HQ.box 0).c 0
                have c61 := (HQ.box 0).c 1
                have c62 := (HQ.box 0).c 2
                have f60 := (HQ.box 0).f 0
                have f61 := (HQ.box 0).f 1
                have f62 := (HQ.box 0).f 2
                go_simp
                clear c60 c61 c62 f60 f61 f62
                have HQ := ((HQ.put (by have h1 := HGB.out; have h2 := HBQ.out; omega) (fun p hp => by (have h1 := HGB.out; have h2 := HBQ.out; simp only [List.mem_cons, List.not_mem_nil, or_false] at hp; rcases hp with rfl | rfl <;> (show _ ≠ _) <;> omega)) 0 (.int .i64 LL)).put (by have h1 := HGB.out; have h2 := HBQ.out; omega) (fun p hp => by (have h1 := HGB.out; have h2 := HBQ.out; simp only [List.mem_cons, List.not_mem_nil, or_false] at hp; rcases hp with rfl | rfl <;> (show _ ≠ _) <;> omega)) 1 (.slice A6 yy.length c6)).put (by have h1 := HGB.out; have h2 := HBQ.out; omega) (fun p hp => by (have h1 := HGB.out; have h2 := HBQ.out; simp only [List.mem_cons, List.not_mem_nil, or_false] at hp; rcases hp with rfl | rfl <;> (show _ ≠ _) <;> omega)) 2 (.int .i64 KK)
                have HO := Lib.hid (own_set3W HO.out HNV.out (.int .i64 LL) (.slice A6 yy.length c6) (.int .i64 KK))
                have HBW := Lib.hid (((HBW.out.setCell (p := ⟨g, 0, none⟩) HGB.out (.int .i64 LL)).setCell (p := ⟨g, 1, none⟩) HGB.out (.slice A6 yy.length c6)).setCell (p := ⟨g, 2, none⟩) HGB.out (.int .i64 KK))
                refine hK.out _ _ (by (try dsimp only); exact HC _ HQ.tail) (fun hHeld => ?_)
                clear hK K
                (try simp only [Act.put, List.setIfInBounds_toArray, List.set_cons_zero, List.set_cons_succ])
                refine wpAnyH_done (by kernel_rfl) ?_ _
                clear hHeld
                go_wp2
                go_meet
                exact ⟨_, A6, c6, rfl, HQ, HO.out, HGB.out, HNV.out, by rw [← HSZ0.out]; exact HBW.out⟩
              exact AllReadyH.nil
            exact AllReadyH.nil
          exact AllReadyH.nil
        exact AllReadyH.nil
      exact AllReadyH.nil
    case rest =>
      clear HC HQ HCC HSZ0
      obtain ⟨W0, A3, c3, rfl, HT, hown3, hB3, _, _⟩ := hcut
      have HKW := Lib.hid (show k0 < W0 ∧ k1 < W0 ∧ w.heap.size ≤ W0 by have h1 := HBQ.out; omega)
      have R0 : RowC 3 vg wc wc.heap.size A3 yy := RowC.of_own vg_len hown3 rfl
      have hW0l := (HT.box 0).lt
      clear hown3 HBQ hB3
      have m0 := (HT.box 2).c 0
      have m1 := (HT.box 2).c 1
      have m2 := (HT.box 2).c 2
      go_wp2_with fail
      refine (TC.out _ (HI.out _ HT.below)).mono ?_
      rintro e w4 ⟨g4, rfl, hge4, ho4, hb4⟩
      have hs4 := hb4.size
      have HT := (HT.later hb4).new #[.int .i64 l0, .slice (some ⟨g4, 0, none⟩) x0.length x0.length, .int .i64 b0] 29
      have hbx : Below w4.heap.size w4 (w4.alloc (.cells #[.int .i64 l0, .slice (some ⟨g4, 0, none⟩) x0.length x0.length, .int .i64 b0] 29)) := by go_grown
      have HX := (RowC.of_own vg_len ho4 rfl : RowC 3 vg w4 w4.heap.size (some ⟨g4, 0, none⟩) x0).later hbx
      have HXO := own_keep' ho4 hbx
      have hg4l := ho4.lt g4 rfl
      obtain ⟨BX, hBX⟩ : ∃ B, B = wc.heap.size := ⟨_, rfl⟩
      rw [← hBX] at R0 HXO hs4 hW0l hge4
      have R0 := (R0.below (by rw [hBX]; exact hb4)).alloc (by omega) (.cells #[.int .i64 l0, .slice (some ⟨g4, 0, none⟩) x0.length x0.length, .int .i64 b0] 29)
      clear hb4 ho4 hbx m0 m1 m2 hBX
      go_upto_region 7 with fail
      obtain ⟨wc7, hwc7⟩ : ∃ W, W = w4.alloc (.cells #[.int .i64 l0, .slice (some ⟨g4, 0, none⟩) x0.length x0.length, .int .i64 b0] 29) := ⟨_, rfl⟩
      obtain ⟨X0, hX0⟩ : ∃ k, k = w4.heap.size := ⟨_, rfl⟩
      have hsz7 : wc7.heap.size = X0 + 1 := by rw [hwc7, hX0]; simp
      rw [← hwc7] at HT HX HXO R0 ⊢
      rw [← hX0] at HT hs4 hg4l ⊢
      have HXF := Lib.hid (show k0 < W0 ∧ k1 < W0 ∧ w.heap.size ≤ W0 ∧ W0 < BX ∧ BX ≤ X0 ∧ BX ≤ g4 ∧ g4 < X0 ∧ wc7.heap.size = X0 + 1 by have := HKW.out; omega)
      have HXO := Lib.hid HXO
      have HX := Lib.hid HX
      have HR := Lib.hid R0
      clear hwc7 hX0 hs4 hg4l hW0l hge4 hsz7 R0
      obtain ⟨Bq, hBq⟩ : ∃ B, B = wc7.heap.size := ⟨_, rfl⟩
      have HCC : Hid (∀ W', Held w W' [(X0, [.int .i64 l0, .slice (some ⟨g4, 0, none⟩) x0.length x0.length, .int .i64 b0]), (W0, [.int .i64 LL, .slice A3 yy.length c3, .int .i64 KK]), (k1, [.int .i64 a1_0, .int .i64 a1_1, .int .i64 a1_2]), (k0, [.int .i64 l0, .slice a0 x0.length c0, .int .i64 b0])] → (W'.cell? ⟨X0, 0, none⟩ = some (.int .i64 l0) ∧ W'.cell? ⟨X0, 1, none⟩ = some (.slice (some ⟨g4, 0, none⟩) x0.length x0.length) ∧ W'.cell? ⟨X0, 2, none⟩ = some (.int .i64 b0) ∧ W'.cell? ⟨k1, 0, none⟩ = some (.int .i64 a1_0) ∧ W'.cell? ⟨k1, 1, none⟩ = some (.int .i64 a1_1) ∧ W'.cell? ⟨k1, 2, none⟩ = some (.int .i64 a1_2))) := Lib.hid (fun W' h => ⟨(h.box 0).c 0, (h.box 0).c 1, (h.box 0).c 2, (h.box 2).c 0, (h.box 2).c 1, (h.box 2).c 2⟩)
      have HBQ := Lib.hid (show k0 < Bq ∧ k1 < Bq ∧ W0 < Bq ∧ X0 < Bq ∧ w.heap.size ≤ Bq by have h1 := (HT.box 3).lt; have h2 := (HT.box 2).lt; have h4 := (HT.box 1).lt; have h5 := (HT.box 0).lt; have h3 := HT.size; omega)
      have HRQ := HX.out
      have HSZ0 := Lib.hid hBq
      have HC : ∀ W', Held w W' [(X0, [.int .i64 l0, .slice (some ⟨g4, 0, none⟩) x0.length x0.length, .int .i64 b0]), (W0, [.int .i64 LL, .slice A3 yy.length c3, .int .i64 KK]), (k1, [.int .i64 a1_0, .int .i64 a1_1, .int .i64 a1_2]), (k0, [.int .i64 l0, .slice a0 x0.length c0, .int .i64 b0])] → (W'.cell? ⟨X0, 0, none⟩ = some (.int .i64 l0) ∧ W'.cell? ⟨X0, 1, none⟩ = some (.slice (some ⟨g4, 0, none⟩) x0.length x0.length) ∧ W'.cell? ⟨X0, 2, none⟩ = some (.int .i64 b0) ∧ W'.cell? ⟨k1, 0, none⟩ = some (.int .i64 a1_0) ∧ W'.cell? ⟨k1, 1, none⟩ = some (.int .i64 a1_1) ∧ W'.cell? ⟨k1, 2, none⟩ = some (.int .i64 a1_2)) := fun W' h => HCC.out W' h
      have HQ := HT
      clear hBq
      go_upto_region 7 with fail
      go_cut [8] (fun yv wx => ∃ g A6 c6, yv = .pointer (some ⟨g, 0, none⟩) ∧ Held w wx ((g, [.int .i64 LL, .slice A6 yy.length c6, .int .i64 KK]) :: [(X0, [.int .i64 l0, .slice (some ⟨g4, 0, none⟩) x0.length x0.length, .int .i64 b0]), (W0, [.int .i64 LL, .slice A3 yy.length c3, .int .i64 KK]), (k1, [.int .i64 a1_0, .int .i64 a1_1, .int .i64 a1_2]), (k0, [.int .i64 l0, .slice a0 x0.length c0, .int .i64 b0])]) ∧ wx.ownsRow Bq 50 3 (.slice A6 yy.length c6) yy.length (yy.flatMap vg) ∧ Bq ≤ g ∧ (Value.slice A6 yy.length c6).ownBlock ≠ some g ∧ Below wc7.heap.size wc7 wx)
      case first =>
        have HQ := HQ.drew
        (try have HRQ := rowC_drew HRQ)
        refine wp_region_held_drew (S := fun W' => W'.cell? ⟨X0, 0, none⟩ = some (.int .i64 l0) ∧ W'.cell? ⟨X0, 1, none⟩ = some (.slice (some ⟨g4, 0, none⟩) x0.length x0.length) ∧ W'.cell? ⟨X0, 2, none⟩ = some (.int .i64 b0) ∧ W'.cell? ⟨k1, 0, none⟩ = some (.int .i64 a1_0) ∧ W'.cell? ⟨k1, 1, none⟩ = some (.int .i64 a1_1) ∧ W'.cell? ⟨k1, 2, none⟩ = some (.int .i64 a1_2)) (by kernel_rfl) (HC _ HQ) (fun hHeld => ?_)
        obtain ⟨wd, hwd⟩ : ∃ x, x = wc7.drew := ⟨_, rfl⟩
        have HSZ : Hid (Bq ≤ wd.heap.size) := Lib.hid (by rw [hwd, HSZ0.out]; exact Nat.le_refl _)
        have HBW : Hid (Below Bq wc7 wd) := Lib.hid (by rw [hwd]; exact (Below.refl _ _).drew)
        rw [← hwd] at HQ hHeld ⊢
        (try rw [← hwd] at HRQ)
        clear hwd
        refine wpAnyH_take (i := 0) (oi := { dst := some 25, op := Op.load 29 (Operand.tmp 7), type := 29, pos := "exact.go:4902", after := #[], guard := none }) (v := ?_) rfl (by kernel_rfl) (by kernel_rfl) (by kernel_rfl) (fun _ _ _ h => h) (Or.inl ⟨by rfl, ?_⟩) (by assumption) ?_
        rotate_left 1
        · (intro w hSw; (try dsimp only at hSw); go_simp <;> with_reducible rfl)
        (try simp only [Act.put, List.setIfInBounds_toArray, List.set_cons_zero, List.set_cons_succ])
        refine wpAnyH_take (i := 1) (oi := { dst := some 26, op := Op.load 60 (Operand.tmp 3), type := 60, pos := "exact.go:4902", after := #[], guard := none }) (v := ?_) rfl (by kernel_rfl) (by kernel_rfl) (by kernel_rfl) (fun _ _ _ h => h) (Or.inl ⟨by rfl, ?_⟩) (by assumption) ?_
        rotate_left 1
        · (intro w hSw; (try dsimp only at hSw); go_simp <;> with_reducible rfl)
        (try simp only [Act.put, List.setIfInBounds_toArray, List.set_cons_zero, List.set_cons_succ])
        refine wpAnyH_ready (rs := [2, 4]) (by kernel_rfl) (by simp) ?_
        refine AllReadyH.cons (o := { dst := some 27, op := Op.call { callee := Callee.value (Operand.func 38), args := #[Operand.tmp 26], argTypes := #[60] }, type := 50, pos := "exact.go:4902", after := #[{ on := 1, ground := Ground.data }], guard := none }) rfl (fun K hK => ?_) ?_
        · go_simp
          (with_reducible refine (HTL.out _).mono ?_)
          rintro e wd ⟨rfl, hb7⟩
          have HQ := HQ.later hb7
          have HRQ := HRQ.later hb7
          have HBW := Lib.hid (HBW.out.trans (hb7.mono HSZ.out))
          have HSZ := Lib.hid (Nat.le_trans HSZ.out hb7.size)
          clear hb7
          (try go_wp2_with fail)
          refine hK.out _ _ (by (try dsimp only); (first | with_reducible exact HC _ HQ | with_reducible exact HC _ HQ.tail)) (fun hHeld => ?_)
          clear hK K
          (try simp only [Act.put, List.setIfInBounds_toArray, List.set_cons_zero, List.set_cons_succ])
          refine wpAnyH_ready (rs := [3, 4]) (by kernel_rfl) (by simp) ?_
          refine AllReadyH.cons (o := { dst := some 28, op := Op.call { callee := Callee.value (Operand.func 39), args := #[Operand.tmp 25, Operand.tmp 27], argTypes := #[29, 50] }, type := 29, pos := "exact.go:4902", after := #[{ on := 0, ground := Ground.data }, { on := 2, ground := Ground.data }, { on := 2, ground := Ground.chain }], guard := none }) rfl (fun K hK => ?_) ?_
          · go_simp
            (with_reducible refine (HIV.out _ _ HRQ).mono ?_)
            rintro e wd ⟨A6, c6, rfl, ho6, hb7⟩
            (try have HNV : Hid (Value.ownBlock (.slice A6 yy.length c6) ≠ some g) := Lib.hid (fun e => by have h1 := own_block ho6 g e; have h2 := (HQ.box 0).lt; omega))
            have HQ := HQ.later hb7
            have HO := Lib.hid (own_base ho6 HSZ.out)
            have HBW := Lib.hid (HBW.out.trans (hb7.mono HSZ.out))
            have HSZ := Lib.hid (Nat.le_trans HSZ.out hb7.size)
            clear ho6 hb7 HRQ
            (try go_wp2_with fail)
            refine hK.out _ _ (by (try dsimp only); (first | with_reducible exact HC _ HQ | with_reducible exact HC _ HQ.tail)) (fun hHeld => ?_)
            clear hK K
            (try simp only [Act.put, List.setIfInBounds_toArray, List.set_cons_zero, List.set_cons_succ])
            refine wpAnyH_ready (rs := [4]) (by kernel_rfl) (by simp) ?_
            refine AllReadyH.cons (o := { dst := some 8, op := Op.alloc 29, type := 0, pos := "exact.go:4902", after := #[], guard := none }) rfl (fun K hK => ?_) ?_
            · go_simp
              (try have HNV0 := fun q (e : Value.ownBlock _ = some q) => (HO.out.lt q e).2)
              have HQ := HQ.new #[.int .i64 0, .slice none 0 0, .int .i64 0] 29
              (try have HO := Lib.hid (HO.out.alloc (.cells #[.int .i64 0, .slice none 0 0, .int .i64 0] 29)))
              (try have HRQ := rowC_alloc HRQ (.cells #[.int .i64 0, .slice none 0 0, .int .i64 0] 29))
              (try have HRT := rowI_alloc HRT (.cells #[.int .i64 0, .slice none 0 0, .int .i64 0] 29))
              refine hK.out _ _ (by (try dsimp only); (first | with_reducible exact HC _ HQ | with_reducible exact HC _ HQ.tail)) (fun hHeld => ?_)
              obtain ⟨wn, hwn⟩ : ∃ W, W = wd.alloc (.cells #[.int .i64 0, .slice none 0 0, .int .i64 0] 29) := ⟨_, rfl⟩
              obtain ⟨g, hg⟩ : ∃ k, k = wd.heap.size := ⟨_, rfl⟩
              have HGB := Lib.hid (show Bq ≤ g by rw [hg]; exact HSZ.out)
              have HBW := Lib.hid (HBW.out.alloc HSZ.out (.cells #[.int .i64 0, .slice none 0 0, .int .i64 0] 29))
              have HSZ : Hid (Bq ≤ (wd.alloc (.cells #[.int .i64 0, .slice none 0 0, .int .i64 0] 29)).heap.size) := Lib.hid (by have := HSZ.out; simp; omega)
              rw [← hwn] at HQ HSZ HBW hHeld ⊢
              (try rw [← hwn] at HO)
              (try rw [← hwn] at HRQ)
              (try rw [← hwn] at HRT)
              rw [← hg] at HQ ⊢
              (try rw [← hg] at HNV0)
              (try have HNV := Lib.hid (fun (e : Value.ownBlock _ = some g) => Nat.lt_irrefl _ (HNV0 g e)))
              (try clear HNV0)
              clear hwn hg
              clear hK K
              (try simp only [Act.put, List.setIfInBounds_toArray, List.set_cons_zero, List.set_cons_succ])
              refine wpAnyH_ready (rs := [5]) (by kernel_rfl) (by simp) ?_
              refine AllReadyH.cons (o := { dst := none, op := Op.store 29 (Operand.tmp 8) (Operand.tmp 28), type := 0, pos := "exact.go:4902", after := #[{ on := 4, ground := Ground.data }, { on := 3, ground := Ground.data }, { on := 3, ground := Ground.chain }, { on := 0, ground := Ground.phase }, { on := 1, ground := Ground.phase }, { on := 2, ground := Ground.phase }, { on := 3, ground := Ground.phase }, { on := 4, ground := Ground.phase }], guard := none }) rfl (fun K hK => ?_) ?_
              · have c60 := (HQ.box 0).c 0
                have c61 := (HQ.box 0).c 1
                have c62 := (HQ.box 0).c 2
                have f60 := (HQ.box 0).f 0
                have f61 := (HQ.box 0).f 1
                have f62 := (HQ.box 0).f 2
                go_simp
                clear c60 c61 c62 f60 f61 f62
                have HQ := ((HQ.put (by have h1 := HGB.out; have h2 := HBQ.out; omega) (fun p hp => by (have h1 := HGB.out; have h2 := HBQ.out; simp only [List.mem_cons, List.not_mem_nil, or_false] at hp; rcases hp with rfl | rfl | rfl | rfl <;> (show _ ≠ _) <;> omega)) 0 (.int .i64 LL)).put (by have h1 := HGB.out; have h2 := HBQ.out; omega) (fun p hp => by (have h1 := HGB.out; have h2 := HBQ.out; simp only [List.mem_cons, List.not_mem_nil, or_false] at hp; rcases hp with rfl | rfl | rfl | rfl <;> (show _ ≠ _) <;> omega)) 1 (.slice A6 yy.length c6)).put (by have h1 := HGB.out; have h2 := HBQ.out; omega) (fun p hp => by (have h1 := HGB.out; have h2 := HBQ.out; simp only [List.mem_cons, List.not_mem_nil, or_false] at hp; rcases hp with rfl | rfl | rfl | rfl <;> (show _ ≠ _) <;> omega)) 2 (.int .i64 KK)
                have HO := Lib.hid (own_set3W HO.out HNV.out (.int .i64 LL) (.slice A6 yy.length c6) (.int .i64 KK))
                have HBW := Lib.hid (((HBW.out.setCell (p := ⟨g, 0, none⟩) HGB.out (.int .i64 LL)).setCell (p := ⟨g, 1, none⟩) HGB.out (.slice A6 yy.length c6)).setCell (p := ⟨g, 2, none⟩) HGB.out (.int .i64 KK))
                refine hK.out _ _ (by (try dsimp only); exact HC _ HQ.tail) (fun hHeld => ?_)
                clear hK K
                (try simp only [Act.put, List.setIfInBounds_toArray, List.set_cons_zero, List.set_cons_succ])
                refine wpAnyH_done (by kernel_rfl) ?_ _
                clear hHeld
                go_wp2
                go_meet
                exact ⟨_, A6, c6, rfl, HQ, HO.out, HGB.out, HNV.out, by rw [← HSZ0.out]; exact HBW.out⟩
              exact AllReadyH.nil
            exact AllReadyH.nil
          refine AllReadyH.cons (o := { dst := some 8, op := Op.alloc 29, type := 0, pos := "exact.go:4902", after := #[], guard := none }) rfl (fun K hK => ?_) ?_
          · go_simp
            (try have HNV0 := fun q (e : Value.ownBlock _ = some q) => (HO.out.lt q e).2)
            have HQ := HQ.new #[.int .i64 0, .slice none 0 0, .int .i64 0] 29
            (try have HO := Lib.hid (HO.out.alloc (.cells #[.int .i64 0, .slice none 0 0, .int .i64 0] 29)))
            (try have HRQ := rowC_alloc HRQ (.cells #[.int .i64 0, .slice none 0 0, .int .i64 0] 29))
            (try have HRT := rowI_alloc HRT (.cells #[.int .i64 0, .slice none 0 0, .int .i64 0] 29))
            refine hK.out _ _ (by (try dsimp only); (first | with_reducible exact HC _ HQ | with_reducible exact HC _ HQ.tail)) (fun hHeld => ?_)
            obtain ⟨wn, hwn⟩ : ∃ W, W = wd.alloc (.cells #[.int .i64 0, .slice none 0 0, .int .i64 0] 29) := ⟨_, rfl⟩
            obtain ⟨g, hg⟩ : ∃ k, k = wd.heap.size := ⟨_, rfl⟩
            have HGB := Lib.hid (show Bq ≤ g by rw [hg]; exact HSZ.out)
            have HBW := Lib.hid (HBW.out.alloc HSZ.out (.cells #[.int .i64 0, .slice none 0 0, .int .i64 0] 29))
            have HSZ : Hid (Bq ≤ (wd.alloc (.cells #[.int .i64 0, .slice none 0 0, .int .i64 0] 29)).heap.size) := Lib.hid (by have := HSZ.out; simp; omega)
            rw [← hwn] at HQ HSZ HBW hHeld ⊢
            (try rw [← hwn] at HO)
            (try rw [← hwn] at HRQ)
            (try rw [← hwn] at HRT)
            rw [← hg] at HQ ⊢
            (try rw [← hg] at HNV0)
            (try have HNV := Lib.hid (fun (e : Value.ownBlock _ = some g) => Nat.lt_irrefl _ (HNV0 g e)))
            (try clear HNV0)
            clear hwn hg
            clear hK K
            (try simp only [Act.put, List.setIfInBounds_toArray, List.set_cons_zero, List.set_cons_succ])
            refine wpAnyH_ready (rs := [3]) (by kernel_rfl) (by simp) ?_
            refine AllReadyH.cons (o := { dst := some 28, op := Op.call { callee := Callee.value (Operand.func 39), args := #[Operand.tmp 25, Operand.tmp 27], argTypes := #[29, 50] }, type := 29, pos := "exact.go:4902", after := #[{ on := 0, ground := Ground.data }, { on := 2, ground := Ground.data }, { on := 2, ground := Ground.chain }], guard := none }) rfl (fun K hK => ?_) ?_
            · go_simp
              (with_reducible refine (HIV.out _ _ HRQ).mono ?_)
              rintro e wd ⟨A6, c6, rfl, ho6, hb7⟩
              (try have HNV : Hid (Value.ownBlock (.slice A6 yy.length c6) ≠ some g) := Lib.hid (fun e => by have h1 := own_block ho6 g e; have h2 := (HQ.box 0).lt; omega))
              have HQ := HQ.later hb7
              have HO := Lib.hid (own_base ho6 HSZ.out)
              have HBW := Lib.hid (HBW.out.trans (hb7.mono HSZ.out))
              have HSZ := Lib.hid (Nat.le_trans HSZ.out hb7.size)
              clear ho6 hb7 HRQ
              (try go_wp2_with fail)
              refine hK.out _ _ (by (try dsimp only); (first | with_reducible exact HC _ HQ | with_reducible exact HC _ HQ.tail)) (fun hHeld => ?_)
              clear hK K
              (try simp only [Act.put, List.setIfInBounds_toArray, List.set_cons_zero, List.set_cons_succ])
              refine wpAnyH_ready (rs := [5]) (by kernel_rfl) (by simp) ?_
              refine AllReadyH.cons (o := { dst := none, op := Op.store 29 (Operand.tmp 8) (Operand.tmp 28), type := 0, pos := "exact.go:4902", after := #[{ on := 4, ground := Ground.data }, { on := 3, ground := Ground.data }, { on := 3, ground := Ground.chain }, { on := 0, ground := Ground.phase }, { on := 1, ground := Ground.phase }, { on := 2, ground := Ground.phase }, { on := 3, ground := Ground.phase }, { on := 4, ground := Ground.phase }], guard := none }) rfl (fun K hK => ?_) ?_
              · have c60 := (HQ.box 0).c 0
                have c61 := (HQ.box 0).c 1
                have c62 := (HQ.box 0).c 2
                have f60 := (HQ.box 0).f 0
                have f61 := (HQ.box 0).f 1
                have f62 := (HQ.box 0).f 2
                go_simp
                clear c60 c61 c62 f60 f61 f62
                have HQ := ((HQ.put (by have h1 := HGB.out; have h2 := HBQ.out; omega) (fun p hp => by (have h1 := HGB.out; have h2 := HBQ.out; simp only [List.mem_cons, List.not_mem_nil, or_false] at hp; rcases hp with rfl | rfl | rfl | rfl <;> (show _ ≠ _) <;> omega)) 0 (.int .i64 LL)).put (by have h1 := HGB.out; have h2 := HBQ.out; omega) (fun p hp => by (have h1 := HGB.out; have h2 := HBQ.out; simp only [List.mem_cons, List.not_mem_nil, or_false] at hp; rcases hp with rfl | rfl | rfl | rfl <;> (show _ ≠ _) <;> omega)) 1 (.slice A6 yy.length c6)).put (by have h1 := HGB.out; have h2 := HBQ.out; omega) (fun p hp => by (have h1 := HGB.out; have h2 := HBQ.out; simp only [List.mem_cons, List.not_mem_nil, or_false] at hp; rcases hp with rfl | rfl | rfl | rfl <;> (show _ ≠ _) <;> omega)) 2 (.int .i64 KK)
                have HO := Lib.hid (own_set3W HO.out HNV.out (.int .i64 LL) (.slice A6 yy.length c6) (.int .i64 KK))
                have HBW := Lib.hid (((HBW.out.setCell (p := ⟨g, 0, none⟩) HGB.out (.int .i64 LL)).setCell (p := ⟨g, 1, none⟩) HGB.out (.slice A6 yy.length c6)).setCell (p := ⟨g, 2, none⟩) HGB.out (.int .i64 KK))
                refine hK.out _ _ (by (try dsimp only); exact HC _ HQ.tail) (fun hHeld => ?_)
                clear hK K
                (try simp only [Act.put, List.setIfInBounds_toArray, List.set_cons_zero, List.set_cons_succ])
                refine wpAnyH_done (by kernel_rfl) ?_ _
                clear hHeld
                go_wp2
                go_meet
                exact ⟨_, A6, c6, rfl, HQ, HO.out, HGB.out, HNV.out, by rw [← HSZ0.out]; exact HBW.out⟩
              exact AllReadyH.nil
            exact AllReadyH.nil
          exact AllReadyH.nil
        refine AllReadyH.cons (o := { dst := some 8, op := Op.alloc 29, type := 0, pos := "exact.go:4902", after := #[], guard := none }) rfl (fun K hK => ?_) ?_
        · go_simp
          (try have HNV0 := fun q (e : Value.ownBlock _ = some q) => (HO.out.lt q e).2)
          have HQ := HQ.new #[.int .i64 0, .slice none 0 0, .int .i64 0] 29
          (try have HO := Lib.hid (HO.out.alloc (.cells #[.int .i64 0, .slice none 0 0, .int .i64 0] 29)))
          (try have HRQ := rowC_alloc HRQ (.cells #[.int .i64 0, .slice none 0 0, .int .i64 0] 29))
          (try have HRT := rowI_alloc HRT (.cells #[.int .i64 0, .slice none 0 0, .int .i64 0] 29))
          refine hK.out _ _ (by (try dsimp only); (first | with_reducible exact HC _ HQ | with_reducible exact HC _ HQ.tail)) (fun hHeld => ?_)
          obtain ⟨wn, hwn⟩ : ∃ W, W = wd.alloc (.cells #[.int .i64 0, .slice none 0 0, .int .i64 0] 29) := ⟨_, rfl⟩
          obtain ⟨g, hg⟩ : ∃ k, k = wd.heap.size := ⟨_, rfl⟩
          have HGB := Lib.hid (show Bq ≤ g by rw [hg]; exact HSZ.out)
          have HBW := Lib.hid (HBW.out.alloc HSZ.out (.cells #[.int .i64 0, .slice none 0 0, .int .i64 0] 29))
          have HSZ : Hid (Bq ≤ (wd.alloc (.cells #[.int .i64 0, .slice none 0 0, .int .i64 0] 29)).heap.size) := Lib.hid (by have := HSZ.out; simp; omega)
          rw [← hwn] at HQ HSZ HBW hHeld ⊢
          (try rw [← hwn] at HO)
          (try rw [← hwn] at HRQ)
          (try rw [← hwn] at HRT)
          rw [← hg] at HQ ⊢
          (try rw [← hg] at HNV0)
          (try have HNV := Lib.hid (fun (e : Value.ownBlock _ = some g) => Nat.lt_irrefl _ (HNV0 g e)))
          (try clear HNV0)
          clear hwn hg
          clear hK K
          (try simp only [Act.put, List.setIfInBounds_toArray, List.set_cons_zero, List.set_cons_succ])
          refine wpAnyH_ready (rs := [2]) (by kernel_rfl) (by simp) ?_
          refine AllReadyH.cons (o := { dst := some 27, op := Op.call { callee := Callee.value (Operand.func 38), args := #[Operand.tmp 26], argTypes := #[60] }, type := 50, pos := "exact.go:4902", after := #[{ on := 1, ground := Ground.data }], guard := none }) rfl (fun K hK => ?_) ?_
          · go_simp
            (with_reducible refine (HTL.out _).mono ?_)
            rintro e wd ⟨rfl, hb7⟩
            have HQ := HQ.later hb7
            have HRQ := HRQ.later hb7
            have HBW := Lib.hid (HBW.out.trans (hb7.mono HSZ.out))
            have HSZ := Lib.hid (Nat.le_trans HSZ.out hb7.size)
            clear hb7
            (try go_wp2_with fail)
            refine hK.out _ _ (by (try dsimp only); (first | with_reducible exact HC _ HQ | with_reducible exact HC _ HQ.tail)) (fun hHeld => ?_)
            clear hK K
            (try simp only [Act.put, List.setIfInBounds_toArray, List.set_cons_zero, List.set_cons_succ])
            refine wpAnyH_ready (rs := [3]) (by kernel_rfl) (by simp) ?_
            refine AllReadyH.cons (o := { dst := some 28, op := Op.call { callee := Callee.value (Operand.func 39), args := #[Operand.tmp 25, Operand.tmp 27], argTypes := #[29, 50] }, type := 29, pos := "exact.go:4902", after := #[{ on := 0, ground := Ground.data }, { on := 2, ground := Ground.data }, { on := 2, ground := Ground.chain }], guard := none }) rfl (fun K hK => ?_) ?_
            · go_simp
              (with_reducible refine (HIV.out _ _ HRQ).mono ?_)
              rintro e wd ⟨A6, c6, rfl, ho6, hb7⟩
              (try have HNV : Hid (Value.ownBlock (.slice A6 yy.length c6) ≠ some g) := Lib.hid (fun e => by have h1 := own_block ho6 g e; have h2 := (HQ.box 0).lt; omega))
              have HQ := HQ.later hb7
              have HO := Lib.hid (own_base ho6 HSZ.out)
              have HBW := Lib.hid (HBW.out.trans (hb7.mono HSZ.out))
              have HSZ := Lib.hid (Nat.le_trans HSZ.out hb7.size)
              clear ho6 hb7 HRQ
              (try go_wp2_with fail)
              refine hK.out _ _ (by (try dsimp only); (first | with_reducible exact HC _ HQ | with_reducible exact HC _ HQ.tail)) (fun hHeld => ?_)
              clear hK K
              (try simp only [Act.put, List.setIfInBounds_toArray, List.set_cons_zero, List.set_cons_succ])
              refine wpAnyH_ready (rs := [5]) (by kernel_rfl) (by simp) ?_
              refine AllReadyH.cons (o := { dst := none, op := Op.store 29 (Operand.tmp 8) (Operand.tmp 28), type := 0, pos := "exact.go:4902", after := #[{ on := 4, ground := Ground.data }, { on := 3, ground := Ground.data }, { on := 3, ground := Ground.chain }, { on := 0, ground := Ground.phase }, { on := 1, ground := Ground.phase }, { on := 2, ground := Ground.phase }, { on := 3, ground := Ground.phase }, { on := 4, ground := Ground.phase }], guard := none }) rfl (fun K hK => ?_) ?_
              · have c60 := (HQ.box 0).c 0
                have c61 := (HQ.box 0).c 1
                have c62 := (HQ.box 0).c 2
                have f60 := (HQ.box 0).f 0
                have f61 := (HQ.box 0).f 1
                have f62 := (HQ.box 0).f 2
                go_simp
                clear c60 c61 c62 f60 f61 f62
                have HQ := ((HQ.put (by have h1 := HGB.out; have h2 := HBQ.out; omega) (fun p hp => by (have h1 := HGB.out; have h2 := HBQ.out; simp only [List.mem_cons, List.not_mem_nil, or_false] at hp; rcases hp with rfl | rfl | rfl | rfl <;> (show _ ≠ _) <;> omega)) 0 (.int .i64 LL)).put (by have h1 := HGB.out; have h2 := HBQ.out; omega) (fun p hp => by (have h1 := HGB.out; have h2 := HBQ.out; simp only [List.mem_cons, List.not_mem_nil, or_false] at hp; rcases hp with rfl | rfl | rfl | rfl <;> (show _ ≠ _) <;> omega)) 1 (.slice A6 yy.length c6)).put (by have h1 := HGB.out; have h2 := HBQ.out; omega) (fun p hp => by (have h1 := HGB.out; have h2 := HBQ.out; simp only [List.mem_cons, List.not_mem_nil, or_false] at hp; rcases hp with rfl | rfl | rfl | rfl <;> (show _ ≠ _) <;> omega)) 2 (.int .i64 KK)
                have HO := Lib.hid (own_set3W HO.out HNV.out (.int .i64 LL) (.slice A6 yy.length c6) (.int .i64 KK))
                have HBW := Lib.hid (((HBW.out.setCell (p := ⟨g, 0, none⟩) HGB.out (.int .i64 LL)).setCell (p := ⟨g, 1, none⟩) HGB.out (.slice A6 yy.length c6)).setCell (p := ⟨g, 2, none⟩) HGB.out (.int .i64 KK))
                refine hK.out _ _ (by (try dsimp only); exact HC _ HQ.tail) (fun hHeld => ?_)
                clear hK K
                (try simp only [Act.put, List.setIfInBounds_toArray, List.set_cons_zero, List.set_cons_succ])
                refine wpAnyH_done (by kernel_rfl) ?_ _
                clear hHeld
                go_wp2
                go_meet
                exact ⟨_, A6, c6, rfl, HQ, HO.out, HGB.out, HNV.out, by rw [← HSZ0.out]; exact HBW.out⟩
              exact AllReadyH.nil
            exact AllReadyH.nil
          exact AllReadyH.nil
        exact AllReadyH.nil
      case rest =>
        clear HC HQ HCC HBQ
        obtain ⟨G0, A5, c5, rfl, HT, hown5, hB5, hng, hbw⟩ := hcut
        have hGl := (HT.box 0).lt
        obtain ⟨BG, hBG⟩ : ∃ B, B = Bq := ⟨_, rfl⟩
        rw [← hBG] at hown5 hB5
        have HGF := Lib.hid (show BG = X0 + 1 ∧ BG ≤ G0 by have h1 := HSZ0.out; have h2 := HXF.out; omega)
        have HU := Lib.hid hng
        have HR := Lib.hid (HR.out.below (hbw.mono (by have := HXF.out; omega)))
        have HX := Lib.hid (HX.out.later hbw)
        have HXO := Lib.hid (own_keep' HXO.out hbw)
        have HO := Lib.hid hown5
        clear hbw hown5 hng hBG HSZ0
        have k00 := (HT.box 0).c 0
        have k01 := (HT.box 0).c 1
        have k02 := (HT.box 0).c 2
        have k20 := (HT.box 2).c 0
        have k21 := (HT.box 2).c 1
        have k22 := (HT.box 2).c 2
        go_wp2_with fail
        refine (eqCache_same LL _ _ _ _ yy KK _ (RowC.of_own vg_len HO.out rfl) (HR.out.more (by have h1 := HXF.out; have h2 := HGF.out; omega)) (by have := HLEN.out; omega)).mono ?_
        rintro e w6 ⟨rfl, hb6⟩
        have HT := HT.later hb6
        have HXR := Lib.hid (HX.out.later hb6)
        have HXO := Lib.hid (own_keep' HXO.out hb6)
        have HR := Lib.hid (HR.out.below (hb6.mono (by have h1 := HXF.out; have h2 := HGF.out; omega)))
        have HO := Lib.hid (own_keep' HO.out hb6)
        have hs6 : G0 + 1 ≤ w6.heap.size := Nat.le_trans hGl hb6.size
        clear k00 k01 k02 k20 k21 k22 hb6 HX hGl
        have HI9 := Lib.hid (fun W (h : Below w6.heap.size w6 W) => HI.out W (HT.below.trans (h.mono HT.size)))
        have HQ : Held w6 w6 [(X0, [.int .i64 l0, .slice (some ⟨g4, 0, none⟩) x0.length x0.length, .int .i64 b0]), (k0, [.int .i64 l0, .slice a0 x0.length c0, .int .i64 b0])] := ⟨Below.refl _ _, (HT.pick (cs := [(X0, [.int .i64 l0, .slice (some ⟨g4, 0, none⟩) x0.length x0.length, .int .i64 b0]), (k0, [.int .i64 l0, .slice a0 x0.length c0, .int .i64 b0])]) (by simp)).2⟩
        have HCE : ∀ w0 W' : World, Held w0 W' [(X0, [.int .i64 l0, .slice (some ⟨g4, 0, none⟩) x0.length x0.length, .int .i64 b0]), (k0, [.int .i64 l0, .slice a0 x0.length c0, .int .i64 b0])] → (W'.cell? ⟨X0, 0, none⟩ = some (.int .i64 l0) ∧ W'.cell? ⟨X0, 1, none⟩ = some (.slice (some ⟨g4, 0, none⟩) x0.length x0.length) ∧ W'.cell? ⟨X0, 2, none⟩ = some (.int .i64 b0) ∧ W'.cell? ⟨k0, 0, none⟩ = some (.int .i64 l0) ∧ W'.cell? ⟨k0, 1, none⟩ = some (.slice a0 x0.length c0) ∧ W'.cell? ⟨k0, 2, none⟩ = some (.int .i64 b0)) := fun w0 W' h => ⟨(h.box 0).c 0, (h.box 0).c 1, (h.box 0).c 2, (h.box 1).c 0, (h.box 1).c 1, (h.box 1).c 2⟩
        have HXE := HXR.out
        go_upto_region 10 with fail
        go_cut [37] (fun z wx => z = .bool false ∧ Below w6.heap.size w6 wx)
        case first =>
          clear HT
          go_region_held3 (fun W' => W'.cell? ⟨X0, 0, none⟩ = some (.int .i64 l0) ∧ W'.cell? ⟨X0, 1, none⟩ = some (.slice (some ⟨g4, 0, none⟩) x0.length x0.length) ∧ W'.cell? ⟨X0, 2, none⟩ = some (.int .i64 b0) ∧ W'.cell? ⟨k0, 0, none⟩ = some (.int .i64 l0) ∧ W'.cell? ⟨k0, 1, none⟩ = some (.slice a0 x0.length c0) ∧ W'.cell? ⟨k0, 2, none⟩ = some (.int .i64 b0))
            (first | (with_reducible exact HCE _ _ HQ) | (with_reducible exact HCE _ _ HQ.drew))
            (first | (go_at_call 24; (with_reducible refine (TC.out _ (by first | with_reducible exact (HI9.out _ HQ.below) | with_reducible exact (HI9.out _ HQ.drew.below))).mono ?_); rintro e w1 ⟨g6, rfl, _, ho6, hb1⟩; have hm6 := (RowC.of_own vg_len ho6 rfl : RowC 3 vg w1 w1.heap.size (some ⟨g6, 0, none⟩) x0); clear ho6; (first | (have HXE := HXE.later hb1) | (have HXE := (rowC_drew HXE).later hb1)); (first | (have HQ := HQ.later hb1) | (have HQ := HQ.drew.later hb1))) | (go_at_call 19; refine (eqCache_same l0 _ _ _ _ x0 b0 _ (by first | with_reducible exact HXE | with_reducible exact rowC_drew HXE) (by first | with_reducible exact hm6 | with_reducible exact rowC_drew hm6) (by have := HLEN.out; omega)).mono ?_; rintro e w1 ⟨rfl, hb1⟩; (first | (have HQ := HQ.later hb1) | (have HQ := HQ.drew.later hb1))))
          all_goals (go_wp2_with fail; go_meet)
          all_goals (first | with_reducible exact ⟨rfl, HQ.below⟩ | with_reducible exact ⟨rfl, HQ.drew.below⟩)
        case rest =>
          clear HQ HCE HXE HI9
          obtain ⟨rfl, hb7⟩ := hcut
          have HT := HT.later hb7
          have HXO := Lib.hid (own_keep' HXO.out hb7)
          have HR := Lib.hid (HR.out.below (hb7.mono (by have h1 := HXF.out; have h2 := HGF.out; omega)))
          have HO := Lib.hid (own_keep' HO.out hb7)
          have hs7 := Nat.le_trans hs6 hb7.size
          clear hb7 hs6 HXR
          have k10 := (HT.box 1).c 0
          have k11 := (HT.box 1).c 1
          have k12 := (HT.box 1).c 2
          have hkk := markCache_own l0 (some ⟨g4, 0, none⟩) x0.length x0 b0 BX 1 _ HXO.out (by have := HLEN.out; omega)
          obtain ⟨kk, hk⟩ : ∃ kk : Nat, kk = 1 + 3 * x0.length := ⟨_, rfl⟩
          rw [← hk] at hkk
          have hk2 : kk ≤ 6291457 := by have := HLEN.out; omega
          clear hk
          go_wp2_with fail
          refine hkk.mono ?_
          rintro e w8 ⟨rfl, _, hg8⟩
          have hg8 : wc.grownBy w8 (some g4) := hg8
          have hkd : ¬ ((kk : Nat) : Int) < 0 := by omega
          have hkd2 : decide (((kk : Nat) : Int) < 0) = false := by simp
          have HT := HT.grownX hg8 (fun q e => by injection e with e; have := HXF.out; omega) (fun p hp e => by have h3 := HXF.out; have h4 := HGF.out; simp only [List.mem_cons, List.not_mem_nil, or_false] at hp; rcases hp with rfl | rfl | rfl | rfl | rfl <;> (injection e with e; dsimp only at e; omega))
          have HR := Lib.hid (HR.out.keep fun p hp => World.cell?_of_block (hg8.block p.block (by have h1 := HXF.out; have h2 := HGF.out; omega) (fun e => by injection e with e; have := HXF.out; omega)))
          have HO := Lib.hid (own_keep HO.out hg8 (by have h1 := HXF.out; have h2 := HGF.out; omega))
          have hs8 := Nat.le_trans hs7 hg8.size
          clear k10 k11 k12 hg8 hkk hs7 HXO
          have k00 := (HT.box 0).c 0
          have k01 := (HT.box 0).c 1
          have k02 := (HT.box 0).c 2
          have k20 := (HT.box 2).c 0
          have k21 := (HT.box 2).c 1
          have k22 := (HT.box 2).c 2
          go_wp2_with fail
          refine (eqCache_same LL _ _ _ _ yy KK _ (RowC.of_own vg_len HO.out rfl) (HR.out.more (by have h1 := HXF.out; have h2 := HGF.out; omega)) (by have := HLEN.out; omega)).mono ?_
          rintro e w9 ⟨rfl, hb9⟩
          have HT := HT.later hb9
          have HR := Lib.hid (HR.out.below (hb9.mono (by have h1 := HXF.out; have h2 := HGF.out; omega)))
          have HO := Lib.hid (own_keep' HO.out hb9)
          have hs9 := Nat.le_trans hs8 hb9.size
          clear k00 k01 k02 k20 k21 k22 hb9 hs8
          have hbg : BX ≤ BG ∧ BX ≤ X0 ∧ BG ≤ G0 ∧ w.heap.size ≤ BG := by have h1 := HXF.out; have h2 := HGF.out; omega
          have k00 := (HT.box 0).c 0
          have k01 := (HT.box 0).c 1
          have k02 := (HT.box 0).c 2
          have hmm := markCache_own LL A5 c5 yy KK BG 1 _ HO.out (by have := HLEN.out; omega)
          obtain ⟨mm, hm⟩ : ∃ mm : Nat, mm = 1 + 3 * yy.length := ⟨_, rfl⟩
          rw [← hm] at hmm
          go_wp2_with fail
          refine hmm.mono ?_
          rintro e w10 ⟨rfl, ho10, hg10⟩
          have HT := HT.grownX hg10 (fun q e => by have h1 := own_block HO.out q e; omega) (fun p hp e => by have h2 := own_block HO.out p.1 e.symm; have h3 := HXF.out; have h4 := HGF.out; simp only [List.mem_cons, List.not_mem_nil, or_false] at hp; rcases hp with rfl | rfl | rfl | rfl | rfl; (first | exact HU.out e.symm | skip); all_goals (dsimp only at h2; omega))
          have HR := Lib.hid (HR.out.keep fun p hp => World.cell?_of_block (hg10.block p.block (by omega) (fun e => by have h1 := own_block HO.out p.block e.symm; omega)))
          have HM : Hid (RowC 3 vg w10 w10.heap.size A5 (mrkT 1 yy.length)) := Lib.hid (RowC.of_own vg_len ho10 (mrkT_len _ _))
          have hs10 := Nat.le_trans hs9 hg10.size
          clear k00 k01 k02 hg10 hmm hs9 HO ho10 HU
          have k00 := (HT.box 0).c 0
          have k01 := (HT.box 0).c 1
          have k02 := (HT.box 0).c 2
          have hmd : ¬ ((mm : Nat) : Int) < 0 := by omega
          have hm2 : mm ≤ 6291457 := by have := HLEN.out; omega
          have HHE : ∀ W, RowC 3 vg W W.heap.size A5 (mrkT 1 yy.length) → Calls Try.prog 21 #[cav LL A5 yy.length c5 KK, .int .i64 1] W fun e w' => e = .returned (.int .i64 (mm : Int)) ∧ Below W.heap.size W w' := fun W h => by
            have h := heldCache_any LL A5 c5 1 yy.length KK W h (by have := HLEN.out; omega)
            rw [← hm] at h
            exact h
          clear hm
          go_wp2_with fail
          refine (HHE _ HM.out).mono ?_
          rintro e w11 ⟨rfl, hb11⟩
          have HT := HT.later hb11
          have HR := Lib.hid (HR.out.below (hb11.mono (by omega)))
          have HM := Lib.hid (HM.out.later hb11)
          have hs11 := Nat.le_trans hs10 hb11.size
          clear k00 k01 k02 hb11 hs10
          obtain ⟨Bq, hBq⟩ : ∃ B, B = w11.heap.size := ⟨_, rfl⟩
          have HCC : Hid (∀ W', Held w W' [(G0, [.int .i64 LL, .slice A5 yy.length c5, .int .i64 KK]), (X0, [.int .i64 l0, .slice (some ⟨g4, 0, none⟩) x0.length x0.length, .int .i64 b0]), (W0, [.int .i64 LL, .slice A3 yy.length c3, .int .i64 KK]), (k1, [.int .i64 a1_0, .int .i64 a1_1, .int .i64 a1_2]), (k0, [.int .i64 l0, .slice a0 x0.length c0, .int .i64 b0])] → (W'.cell? ⟨k0, 0, none⟩ = some (.int .i64 l0) ∧ W'.cell? ⟨k0, 1, none⟩ = some (.slice a0 x0.length c0) ∧ W'.cell? ⟨k0, 2, none⟩ = some (.int .i64 b0) ∧ W'.cell? ⟨k1, 0, none⟩ = some (.int .i64 a1_0) ∧ W'.cell? ⟨k1, 1, none⟩ = some (.int .i64 a1_1) ∧ W'.cell? ⟨k1, 2, none⟩ = some (.int .i64 a1_2))) := Lib.hid (fun W' h => ⟨(h.box 4).c 0, (h.box 4).c 1, (h.box 4).c 2, (h.box 3).c 0, (h.box 3).c 1, (h.box 3).c 2⟩)
          have HBQ := Lib.hid (show k0 < Bq ∧ k1 < Bq ∧ W0 < Bq ∧ X0 < Bq ∧ G0 < Bq ∧ w.heap.size ≤ Bq by have h1 := (HT.box 4).lt; have h2 := (HT.box 3).lt; have h4 := (HT.box 2).lt; have h5 := (HT.box 1).lt; have h6 := (HT.box 0).lt; have h3 := HT.size; omega)
          have HSZ0 := Lib.hid hBq
          have HC : ∀ W', Held w W' [(G0, [.int .i64 LL, .slice A5 yy.length c5, .int .i64 KK]), (X0, [.int .i64 l0, .slice (some ⟨g4, 0, none⟩) x0.length x0.length, .int .i64 b0]), (W0, [.int .i64 LL, .slice A3 yy.length c3, .int .i64 KK]), (k1, [.int .i64 a1_0, .int .i64 a1_1, .int .i64 a1_2]), (k0, [.int .i64 l0, .slice a0 x0.length c0, .int .i64 b0])] → (W'.cell? ⟨k0, 0, none⟩ = some (.int .i64 l0) ∧ W'.cell? ⟨k0, 1, none⟩ = some (.slice a0 x0.length c0) ∧ W'.cell? ⟨k0, 2, none⟩ = some (.int .i64 b0) ∧ W'.cell? ⟨k1, 0, none⟩ = some (.int .i64 a1_0) ∧ W'.cell? ⟨k1, 1, none⟩ = some (.int .i64 a1_1) ∧ W'.cell? ⟨k1, 2, none⟩ = some (.int .i64 a1_2)) := fun W' h => HCC.out W' h
          have HQ := HT
          clear hBq
          go_upto_region 24 with fail
          go_cut [12] (fun yv wx => ∃ g A6 c6, yv = .pointer (some ⟨g, 0, none⟩) ∧ Held w wx ((g, [.int .i64 LL, .slice A6 yy.length c6, .int .i64 KK]) :: [(G0, [.int .i64 LL, .slice A5 yy.length c5, .int .i64 KK]), (X0, [.int .i64 l0, .slice (some ⟨g4, 0, none⟩) x0.length x0.length, .int .i64 b0]), (W0, [.int .i64 LL, .slice A3 yy.length c3, .int .i64 KK]), (k1, [.int .i64 a1_0, .int .i64 a1_1, .int .i64 a1_2]), (k0, [.int .i64 l0, .slice a0 x0.length c0, .int .i64 b0])]) ∧ wx.ownsRow Bq 50 3 (.slice A6 yy.length c6) yy.length (yy.flatMap vg) ∧ Bq ≤ g ∧ (Value.slice A6 yy.length c6).ownBlock ≠ some g ∧ Below w11.heap.size w11 wx)
          case first =>
            have HQ := HQ.drew
            (try have HRQ := rowC_drew HRQ)
            refine wp_region_held_drew (S := fun W' => W'.cell? ⟨k0, 0, none⟩ = some (.int .i64 l0) ∧ W'.cell? ⟨k0, 1, none⟩ = some (.slice a0 x0.length c0) ∧ W'.cell? ⟨k0, 2, none⟩ = some (.int .i64 b0) ∧ W'.cell? ⟨k1, 0, none⟩ = some (.int .i64 a1_0) ∧ W'.cell? ⟨k1, 1, none⟩ = some (.int .i64 a1_1) ∧ W'.cell? ⟨k1, 2, none⟩ = some (.int .i64 a1_2)) (by kernel_rfl) (HC _ HQ) (fun hHeld => ?_)
            obtain ⟨wd, hwd⟩ : ∃ x, x = w11.drew := ⟨_, rfl⟩
            have HSZ : Hid (Bq ≤ wd.heap.size) := Lib.hid (by rw [hwd, HSZ0.out]; exact Nat.le_refl _)
            have HBW : Hid (Below Bq w11 wd) := Lib.hid (by rw [hwd]; exact (Below.refl _ _).drew)
            rw [← hwd] at HQ hHeld ⊢
            (try rw [← hwd] at HRQ)
            clear hwd
            refine wpAnyH_take (i := 0) (oi := { dst := some 60, op := Op.load 43 (Operand.tmp 2), type := 43, pos := "exact.go:4924", after := #[], guard := none }) (v := ?_) rfl (by kernel_rfl) (by kernel_rfl) (by kernel_rfl) (fun _ _ _ h => h) (Or.inl ⟨by rfl, ?_⟩) (by assumption) ?_
            rotate_left 1
            · (intro w hSw; (try dsimp only at hSw); go_simp <;> with_reducible rfl)
            (try simp only [Act.put, List.setIfInBounds_toArray, List.set_cons_zero, List.set_cons_succ])
            refine wpAnyH_take (i := 2) (oi := { dst := some 62, op := Op.load 60 (Operand.tmp 3), type := 60, pos := "exact.go:4924", after := #[], guard := none }) (v := ?_) rfl (by kernel_rfl) (by kernel_rfl) (by kernel_rfl) (fun _ _ _ h => h) (Or.inl ⟨by rfl, ?_⟩) (by assumption) ?_
            rotate_left 1
            · (intro w hSw; (try dsimp only at hSw); go_simp <;> with_reducible rfl)
            (try simp only [Act.put, List.setIfInBounds_toArray, List.set_cons_zero, List.set_cons_succ])
            refine wpAnyH_ready (rs := [1, 5]) (by kernel_rfl) (by simp) ?_
            refine AllReadyH.cons (o := { dst := some 61, op := Op.call { callee := Callee.value (Operand.func 24), args := #[Operand.tmp 60], argTypes := #[43] }, type := 29, pos := "exact.go:4924", after := #[{ on := 0, ground := Ground.data }], guard := none }) rfl (fun K hK => ?_) ?_
            · go_simp
              (with_reducible refine (TC.out _ (HI.out _ HQ.below)).mono ?_)
              rintro e wd ⟨g6, rfl, _, ho6, hb7⟩
              have HQ := HQ.later hb7
              (try have HRT := HRT.later hb7)
              have HRQ := (RowC.of_own vg_len ho6 rfl : RowC 3 vg wd wd.heap.size (some ⟨g6, 0, none⟩) x0)
              have HBW := Lib.hid (HBW.out.trans (hb7.mono HSZ.out))
              have HSZ := Lib.hid (Nat.le_trans HSZ.out hb7.size)
              clear ho6 hb7
              (try go_wp2_with fail)
              refine hK.out _ _ (by (try dsimp only); (first | with_reducible exact HC _ HQ | with_reducible exact HC _ HQ.tail)) (fun hHeld => ?_)
              clear hK K
              (try simp only [Act.put, List.setIfInBounds_toArray, List.set_cons_zero, List.set_cons_succ])
              refine wpAnyH_ready (rs := [3, 5]) (by kernel_rfl) (by simp) ?_
              refine AllReadyH.cons (o := { dst := some 63, op := Op.call { callee := Callee.value (Operand.func 38), args := #[Operand.tmp 62], argTypes := #[60] }, type := 50, pos := "exact.go:4924", after := #[{ on := 2, ground := Ground.data }, { on := 1, ground := Ground.chain }], guard := none }) rfl (fun K hK => ?_) ?_
              · go_simp
                (with_reducible refine (HTL.out _).mono ?_)
                rintro e wd ⟨rfl, hb7⟩
                have HQ := HQ.later hb7
                have HRQ := HRQ.later hb7
                have HBW := Lib.hid (HBW.out.trans (hb7.mono HSZ.out))
                have HSZ := Lib.hid (Nat.le_trans HSZ.out hb7.size)
                clear hb7
                (try go_wp2_with fail)
                refine hK.out _ _ (by (try dsimp only); (first | with_reducible exact HC _ HQ | with_reducible exact HC _ HQ.tail)) (fun hHeld => ?_)
                clear hK K
                (try simp only [Act.put, List.setIfInBounds_toArray, List.set_cons_zero, List.set_cons_succ])
                refine wpAnyH_ready (rs := [4, 5]) (by kernel_rfl) (by simp) ?_
                refine AllReadyH.cons (o := { dst := some 64, op := Op.call { callee := Callee.value (Operand.func 39), args := #[Operand.tmp 61, Operand.tmp 63], argTypes := #[29, 50] }, type := 29, pos := "exact.go:4924", after := #[{ on := 1, ground := Ground.data }, { on := 3, ground := Ground.data }, { on := 3, ground := Ground.chain }], guard := none }) rfl (fun K hK => ?_) ?_
                · go_simp
                  (with_reducible refine (HIV.out _ _ HRQ).mono ?_)
                  rintro e wd ⟨A6, c6, rfl, ho6, hb7⟩
                  (try have HNV : Hid (Value.ownBlock (.slice A6 yy.length c6) ≠ some g) := Lib.hid (fun e => by have h1 := own_block ho6 g e; have h2 := (HQ.box 0).lt; omega))
                  have HQ := HQ.later hb7
                  have HO := Lib.hid (own_base ho6 HSZ.out)
                  have HBW := Lib.hid (HBW.out.trans (hb7.mono HSZ.out))
                  have HSZ := Lib.hid (Nat.le_trans HSZ.out hb7.size)
                  clear ho6 hb7 HRQ
                  (try go_wp2_with fail)
                  refine hK.out _ _ (by (try dsimp only); (first | with_reducible exact HC _ HQ | with_reducible exact HC _ HQ.tail)) (fun hHeld => ?_)
                  clear hK K
                  (try simp only [Act.put, List.setIfInBounds_toArray, List.set_cons_zero, List.set_cons_succ])
                  refine wpAnyH_ready (rs := [5]) (by kernel_rfl) (by simp) ?_
                  refine AllReadyH.cons (o := { dst := some 12, op := Op.alloc 29, type := 0, pos := "exact.go:4924", after := #[], guard := none }) rfl (fun K hK => ?_) ?_
                  · go_simp
                    (try have HNV0 := fun q (e : Value.ownBlock _ = some q) => (HO.out.lt q e).2)
                    have HQ := HQ.new #[.int .i64 0, .slice none 0 0, .int .i64 0] 29
                    (try have HO := Lib.hid (HO.out.alloc (.cells #[.int .i64 0, .slice none 0 0, .int .i64 0] 29)))
                    (try have HRQ := rowC_alloc HRQ (.cells #[.int .i64 0, .slice none 0 0, .int .i64 0] 29))
                    (try have HRT := rowI_alloc HRT (.cells #[.int .i64 0, .slice none 0 0, .int .i64 0] 29))
                    refine hK.out _ _ (by (try dsimp only); (first | with_reducible exact HC _ HQ | with_reducible exact HC _ HQ.tail)) (fun hHeld => ?_)
                    obtain ⟨wn, hwn⟩ : ∃ W, W = wd.alloc (.cells #[.int .i64 0, .slice none 0 0, .int .i64 0] 29) := ⟨_, rfl⟩
                    obtain ⟨g, hg⟩ : ∃ k, k = wd.heap.size := ⟨_, rfl⟩
                    have HGB := Lib.hid (show Bq ≤ g by rw [hg]; exact HSZ.out)
                    have HBW := Lib.hid (HBW.out.alloc HSZ.out (.cells #[.int .i64 0, .slice none 0 0, .int .i64 0] 29))
                    have HSZ : Hid (Bq ≤ (wd.alloc (.cells #[.int .i64 0, .slice none 0 0, .int .i64 0] 29)).heap.size) := Lib.hid (by have := HSZ.out; simp; omega)
                    rw [← hwn] at HQ HSZ HBW hHeld ⊢
                    (try rw [← hwn] at HO)
                    (try rw [← hwn] at HRQ)
                    (try rw [← hwn] at HRT)
                    rw [← hg] at HQ ⊢
                    (try rw [← hg] at HNV0)
                    (try have HNV := Lib.hid (fun (e : Value.ownBlock _ = some g) => Nat.lt_irrefl _ (HNV0 g e)))
                    (try clear HNV0)
                    clear hwn hg
                    clear hK K
                    (try simp only [Act.put, List.setIfInBounds_toArray, List.set_cons_zero, List.set_cons_succ])
                    refine wpAnyH_ready (rs := [6]) (by kernel_rfl) (by simp) ?_
                    refine AllReadyH.cons (o := { dst := none, op := Op.store 29 (Operand.tmp 12) (Operand.tmp 64), type := 0, pos := "exact.go:4924", after := #[{ on := 5, ground := Ground.data }, { on := 4, ground := Ground.data }, { on := 4, ground := Ground.chain }, { on := 0, ground := Ground.phase }, { on := 1, ground := Ground.phase }, { on := 2, ground := Ground.phase }, { on := 3, ground := Ground.phase }, { on := 4, ground := Ground.phase }, { on := 5, ground := Ground.phase }], guard := none }) rfl (fun K hK => ?_) ?_
                    · have c60 := (HQ.box 0).c 0
                      have c61 := (HQ.box 0).c 1
                      have c62 := (HQ.box 0).c 2
                      have f60 := (HQ.box 0).f 0
                      have f61 := (HQ.box 0).f 1
                      have f62 := (HQ.box 0).f 2
                      go_simp
                      clear c60 c61 c62 f60 f61 f62
                      have HQ := ((HQ.put (by have h1 := HGB.out; have h2 := HBQ.out; omega) (fun p hp => by (have h1 := HGB.out; have h2 := HBQ.out; simp only [List.mem_cons, List.not_mem_nil, or_false] at hp; rcases hp with rfl | rfl | rfl | rfl | rfl <;> (show _ ≠ _) <;> omega)) 0 (.int .i64 LL)).put (by have h1 := HGB.out; have h2 := HBQ.out; omega) (fun p hp => by (have h1 := HGB.out; have h2 := HBQ.out; simp only [List.mem_cons, List.not_mem_nil, or_false] at hp; rcases hp with rfl | rfl | rfl | rfl | rfl <;> (show _ ≠ _) <;> omega)) 1 (.slice A6 yy.length c6)).put (by have h1 := HGB.out; have h2 := HBQ.out; omega) (fun p hp => by (have h1 := HGB.out; have h2 := HBQ.out; simp only [List.mem_cons, List.not_mem_nil, or_false] at hp; rcases hp with rfl | rfl | rfl | rfl | rfl <;> (show _ ≠ _) <;> omega)) 2 (.int .i64 KK)
                      have HO := Lib.hid (own_set3W HO.out HNV.out (.int .i64 LL) (.slice A6 yy.length c6) (.int .i64 KK))
                      have HBW := Lib.hid (((HBW.out.setCell (p := ⟨g, 0, none⟩) HGB.out (.int .i64 LL)).setCell (p := ⟨g, 1, none⟩) HGB.out (.slice A6 yy.length c6)).setCell (p := ⟨g, 2, none⟩) HGB.out (.int .i64 KK))
                      refine hK.out _ _ (by (try dsimp only); exact HC _ HQ.tail) (fun hHeld => ?_)
                      clear hK K
                      (try simp only [Act.put, List.setIfInBounds_toArray, List.set_cons_zero, List.set_cons_succ])
                      refine wpAnyH_done (by kernel_rfl) ?_ _
                      clear hHeld
                      go_wp2
                      go_meet
                      exact ⟨_, A6, c6, rfl, HQ, HO.out, HGB.out, HNV.out, by rw [← HSZ0.out]; exact HBW.out⟩
                    exact AllReadyH.nil
                  exact AllReadyH.nil
                refine AllReadyH.cons (o := { dst := some 12, op := Op.alloc 29, type := 0, pos := "exact.go:4924", after := #[], guard := none }) rfl (fun K hK => ?_) ?_
                · go_simp
                  (try have HNV0 := fun q (e : Value.ownBlock _ = some q) => (HO.out.lt q e).2)
                  have HQ := HQ.new #[.int .i64 0, .slice none 0 0, .int .i64 0] 29
                  (try have HO := Lib.hid (HO.out.alloc (.cells #[.int .i64 0, .slice none 0 0, .int .i64 0] 29)))
                  (try have HRQ := rowC_alloc HRQ (.cells #[.int .i64 0, .slice none 0 0, .int .i64 0] 29))
                  (try have HRT := rowI_alloc HRT (.cells #[.int .i64 0, .slice none 0 0, .int .i64 0] 29))
                  refine hK.out _ _ (by (try dsimp only); (first | with_reducible exact HC _ HQ | with_reducible exact HC _ HQ.tail)) (fun hHeld => ?_)
                  obtain ⟨wn, hwn⟩ : ∃ W, W = wd.alloc (.cells #[.int .i64 0, .slice none 0 0, .int .i64 0] 29) := ⟨_, rfl⟩
                  obtain ⟨g, hg⟩ : ∃ k, k = wd.heap.size := ⟨_, rfl⟩
                  have HGB := Lib.hid (show Bq ≤ g by rw [hg]; exact HSZ.out)
                  have HBW := Lib.hid (HBW.out.alloc HSZ.out (.cells #[.int .i64 0, .slice none 0 0, .int .i64 0] 29))
                  have HSZ : Hid (Bq ≤ (wd.alloc (.cells #[.int .i64 0, .slice none 0 0, .int .i64 0] 29)).heap.size) := Lib.hid (by have := HSZ.out; simp; omega)
                  rw [← hwn] at HQ HSZ HBW hHeld ⊢
                  (try rw [← hwn] at HO)
                  (try rw [← hwn] at HRQ)
                  (try rw [← hwn] at HRT)
                  rw [← hg] at HQ ⊢
                  (try rw [← hg] at HNV0)
                  (try have HNV := Lib.hid (fun (e : Value.ownBlock _ = some g) => Nat.lt_irrefl _ (HNV0 g e)))
                  (try clear HNV0)
                  clear hwn hg
                  clear hK K
                  (try simp only [Act.put, List.setIfInBounds_toArray, List.set_cons_zero, List.set_cons_succ])
                  refine wpAnyH_ready (rs := [4]) (by kernel_rfl) (by simp) ?_
                  refine AllReadyH.cons (o := { dst := some 64, op := Op.call { callee := Callee.value (Operand.func 39), args := #[Operand.tmp 61, Operand.tmp 63], argTypes := #[29, 50] }, type := 29, pos := "exact.go:4924", after := #[{ on := 1, ground := Ground.data }, { on := 3, ground := Ground.data }, { on := 3, ground := Ground.chain }], guard := none }) rfl (fun K hK => ?_) ?_
                  · go_simp
                    (with_reducible refine (HIV.out _ _ HRQ).mono ?_)
                    rintro e wd ⟨A6, c6, rfl, ho6, hb7⟩
                    (try have HNV : Hid (Value.ownBlock (.slice A6 yy.length c6) ≠ some g) := Lib.hid (fun e => by have h1 := own_block ho6 g e; have h2 := (HQ.box 0).lt; omega))
                    have HQ := HQ.later hb7
                    have HO := Lib.hid (own_base ho6 HSZ.out)
                    have HBW := Lib.hid (HBW.out.trans (hb7.mono HSZ.out))
                    have HSZ := Lib.hid (Nat.le_trans HSZ.out hb7.size)
                    clear ho6 hb7 HRQ
                    (try go_wp2_with fail)
                    refine hK.out _ _ (by (try dsimp only); (first | with_reducible exact HC _ HQ | with_reducible exact HC _ HQ.tail)) (fun hHeld => ?_)
                    clear hK K
                    (try simp only [Act.put, List.setIfInBounds_toArray, List.set_cons_zero, List.set_cons_succ])
                    refine wpAnyH_ready (rs := [6]) (by kernel_rfl) (by simp) ?_
                    refine AllReadyH.cons (o := { dst := none, op := Op.store 29 (Operand.tmp 12) (Operand.tmp 64), type := 0, pos := "exact.go:4924", after := #[{ on := 5, ground := Ground.data }, { on := 4, ground := Ground.data }, { on := 4, ground := Ground.chain }, { on := 0, ground := Ground.phase }, { on := 1, ground := Ground.phase }, { on := 2, ground := Ground.phase }, { on := 3, ground := Ground.phase }, { on := 4, ground := Ground.phase }, { on := 5, ground := Ground.phase }], guard := none }) rfl (fun K hK => ?_) ?_
                    · have c60 := (HQ.box 0).c 0
                      have c61 := (HQ.box 0).c 1
                      have c62 := (HQ.box 0).c 2
                      have f60 := (HQ.box 0).f 0
                      have f61 := (HQ.box 0).f 1
                      have f62 := (HQ.box 0).f 2
                      go_simp
                      clear c60 c61 c62 f60 f61 f62
                      have HQ := ((HQ.put (by have h1 := HGB.out; have h2 := HBQ.out; omega) (fun p hp => by (have h1 := HGB.out; have h2 := HBQ.out; simp only [List.mem_cons, List.not_mem_nil, or_false] at hp; rcases hp with rfl | rfl | rfl | rfl | rfl <;> (show _ ≠ _) <;> omega)) 0 (.int .i64 LL)).put (by have h1 := HGB.out; have h2 := HBQ.out; omega) (fun p hp => by (have h1 := HGB.out; have h2 := HBQ.out; simp only [List.mem_cons, List.not_mem_nil, or_false] at hp; rcases hp with rfl | rfl | rfl | rfl | rfl <;> (show _ ≠ _) <;> omega)) 1 (.slice A6 yy.length c6)).put (by have h1 := HGB.out; have h2 := HBQ.out; omega) (fun p hp => by (have h1 := HGB.out; have h2 := HBQ.out; simp only [List.mem_cons, List.not_mem_nil, or_false] at hp; rcases hp with rfl | rfl | rfl | rfl | rfl <;> (show _ ≠ _) <;> omega)) 2 (.int .i64 KK)
                      have HO := Lib.hid (own_set3W HO.out HNV.out (.int .i64 LL) (.slice A6 yy.length c6) (.int .i64 KK))
                      have HBW := Lib.hid (((HBW.out.setCell (p := ⟨g, 0, none⟩) HGB.out (.int .i64 LL)).setCell (p := ⟨g, 1, none⟩) HGB.out (.slice A6 yy.length c6)).setCell (p := ⟨g, 2, none⟩) HGB.out (.int .i64 KK))
                      refine hK.out _ _ (by (try dsimp only); exact HC _ HQ.tail) (fun hHeld => ?_)
                      clear hK K
                      (try simp only [Act.put, List.setIfInBounds_toArray, List.set_cons_zero, List.set_cons_succ])
                      refine wpAnyH_done (by kernel_rfl) ?_ _
                      clear hHeld
                      go_wp2
                      go_meet
                      exact ⟨_, A6, c6, rfl, HQ, HO.out, HGB.out, HNV.out, by rw [← HSZ0.out]; exact HBW.out⟩
                    exact AllReadyH.nil
                  exact AllReadyH.nil
                exact AllReadyH.nil
              refine AllReadyH.cons (o := { dst := some 12, op := Op.alloc 29, type := 0, pos := "exact.go:4924", after := #[], guard := none }) rfl (fun K hK => ?_) ?_
              · go_simp
                (try have HNV0 := fun q (e : Value.ownBlock _ = some q) => (HO.out.lt q e).2)
                have HQ := HQ.new #[.int .i64 0, .slice none 0 0, .int .i64 0] 29
                (try have HO := Lib.hid (HO.out.alloc (.cells #[.int .i64 0, .slice none 0 0, .int .i64 0] 29)))
                (try have HRQ := rowC_alloc HRQ (.cells #[.int .i64 0, .slice none 0 0, .int .i64 0] 29))
                (try have HRT := rowI_alloc HRT (.cells #[.int .i64 0, .slice none 0 0, .int .i64 0] 29))
                refine hK.out _ _ (by (try dsimp only); (first | with_reducible exact HC _ HQ | with_reducible exact HC _ HQ.tail)) (fun hHeld => ?_)
                obtain ⟨wn, hwn⟩ : ∃ W, W = wd.alloc (.cells #[.int .i64 0, .slice none 0 0, .int .i64 0] 29) := ⟨_, rfl⟩
                obtain ⟨g, hg⟩ : ∃ k, k = wd.heap.size := ⟨_, rfl⟩
                have HGB := Lib.hid (show Bq ≤ g by rw [hg]; exact HSZ.out)
                have HBW := Lib.hid (HBW.out.alloc HSZ.out (.cells #[.int .i64 0, .slice none 0 0, .int .i64 0] 29))
                have HSZ : Hid (Bq ≤ (wd.alloc (.cells #[.int .i64 0, .slice none 0 0, .int .i64 0] 29)).heap.size) := Lib.hid (by have := HSZ.out; simp; omega)
                rw [← hwn] at HQ HSZ HBW hHeld ⊢
                (try rw [← hwn] at HO)
                (try rw [← hwn] at HRQ)
                (try rw [← hwn] at HRT)
                rw [← hg] at HQ ⊢
                (try rw [← hg] at HNV0)
                (try have HNV := Lib.hid (fun (e : Value.ownBlock _ = some g) => Nat.lt_irrefl _ (HNV0 g e)))
                (try clear HNV0)
                clear hwn hg
                clear hK K
                (try simp only [Act.put, List.setIfInBounds_toArray, List.set_cons_zero, List.set_cons_succ])
                refine wpAnyH_ready (rs := [3]) (by kernel_rfl) (by simp) ?_
                refine AllReadyH.cons (o := { dst := some 63, op := Op.call { callee := Callee.value (Operand.func 38), args := #[Operand.tmp 62], argTypes := #[60] }, type := 50, pos := "exact.go:4924", after := #[{ on := 2, ground := Ground.data }, { on := 1, ground := Ground.chain }], guard := none }) rfl (fun K hK => ?_) ?_
                · go_simp
                  (with_reducible refine (HTL.out _).mono ?_)
                  rintro e wd ⟨rfl, hb7⟩
                  have HQ := HQ.later hb7
                  have HRQ := HRQ.later hb7
                  have HBW := Lib.hid (HBW.out.trans (hb7.mono HSZ.out))
                  have HSZ := Lib.hid (Nat.le_trans HSZ.out hb7.size)
                  clear hb7
                  (try go_wp2_with fail)
                  refine hK.out _ _ (by (try dsimp only); (first | with_reducible exact HC _ HQ | with_reducible exact HC _ HQ.tail)) (fun hHeld => ?_)
                  clear hK K
                  (try simp only [Act.put, List.setIfInBounds_toArray, List.set_cons_zero, List.set_cons_succ])
                  refine wpAnyH_ready (rs := [4]) (by kernel_rfl) (by simp) ?_
                  refine AllReadyH.cons (o := { dst := some 64, op := Op.call { callee := Callee.value (Operand.func 39), args := #[Operand.tmp 61, Operand.tmp 63], argTypes := #[29, 50] }, type := 29, pos := "exact.go:4924", after := #[{ on := 1, ground := Ground.data }, { on := 3, ground := Ground.data }, { on := 3, ground := Ground.chain }], guard := none }) rfl (fun K hK => ?_) ?_
                  · go_simp
                    (with_reducible refine (HIV.out _ _ HRQ).mono ?_)
                    rintro e wd ⟨A6, c6, rfl, ho6, hb7⟩
                    (try have HNV : Hid (Value.ownBlock (.slice A6 yy.length c6) ≠ some g) := Lib.hid (fun e => by have h1 := own_block ho6 g e; have h2 := (HQ.box 0).lt; omega))
                    have HQ := HQ.later hb7
                    have HO := Lib.hid (own_base ho6 HSZ.out)
                    have HBW := Lib.hid (HBW.out.trans (hb7.mono HSZ.out))
                    have HSZ := Lib.hid (Nat.le_trans HSZ.out hb7.size)
                    clear ho6 hb7 HRQ
                    (try go_wp2_with fail)
                    refine hK.out _ _ (by (try dsimp only); (first | with_reducible exact HC _ HQ | with_reducible exact HC _ HQ.tail)) (fun hHeld => ?_)
                    clear hK K
                    (try simp only [Act.put, List.setIfInBounds_toArray, List.set_cons_zero, List.set_cons_succ])
                    refine wpAnyH_ready (rs := [6]) (by kernel_rfl) (by simp) ?_
                    refine AllReadyH.cons (o := { dst := none, op := Op.store 29 (Operand.tmp 12) (Operand.tmp 64), type := 0, pos := "exact.go:4924", after := #[{ on := 5, ground := Ground.data }, { on := 4, ground := Ground.data }, { on := 4, ground := Ground.chain }, { on := 0, ground := Ground.phase }, { on := 1, ground := Ground.phase }, { on := 2, ground := Ground.phase }, { on := 3, ground := Ground.phase }, { on := 4, ground := Ground.phase }, { on := 5, ground := Ground.phase }], guard := none }) rfl (fun K hK => ?_) ?_
                    · have c60 := (HQ.box 0).c 0
                      have c61 := (HQ.box 0).c 1
                      have c62 := (HQ.box 0).c 2
                      have f60 := (HQ.box 0).f 0
                      have f61 := (HQ.box 0).f 1
                      have f62 := (HQ.box 0).f 2
                      go_simp
                      clear c60 c61 c62 f60 f61 f62
                      have HQ := ((HQ.put (by have h1 := HGB.out; have h2 := HBQ.out; omega) (fun p hp => by (have h1 := HGB.out; have h2 := HBQ.out; simp only [List.mem_cons, List.not_mem_nil, or_false] at hp; rcases hp with rfl | rfl | rfl | rfl | rfl <;> (show _ ≠ _) <;> omega)) 0 (.int .i64 LL)).put (by have h1 := HGB.out; have h2 := HBQ.out; omega) (fun p hp => by (have h1 := HGB.out; have h2 := HBQ.out; simp only [List.mem_cons, List.not_mem_nil, or_false] at hp; rcases hp with rfl | rfl | rfl | rfl | rfl <;> (show _ ≠ _) <;> omega)) 1 (.slice A6 yy.length c6)).put (by have h1 := HGB.out; have h2 := HBQ.out; omega) (fun p hp => by (have h1 := HGB.out; have h2 := HBQ.out; simp only [List.mem_cons, List.not_mem_nil, or_false] at hp; rcases hp with rfl | rfl | rfl | rfl | rfl <;> (show _ ≠ _) <;> omega)) 2 (.int .i64 KK)
                      have HO := Lib.hid (own_set3W HO.out HNV.out (.int .i64 LL) (.slice A6 yy.length c6) (.int .i64 KK))
                      have HBW := Lib.hid (((HBW.out.setCell (p := ⟨g, 0, none⟩) HGB.out (.int .i64 LL)).setCell (p := ⟨g, 1, none⟩) HGB.out (.slice A6 yy.length c6)).setCell (p := ⟨g, 2, none⟩) HGB.out (.int .i64 KK))
                      refine hK.out _ _ (by (try dsimp only); exact HC _ HQ.tail) (fun hHeld => ?_)
                      clear hK K
                      (try simp only [Act.put, List.setIfInBounds_toArray, List.set_cons_zero, List.set_cons_succ])
                      refine wpAnyH_done (by kernel_rfl) ?_ _
                      clear hHeld
                      go_wp2
                      go_meet
                      exact ⟨_, A6, c6, rfl, HQ, HO.out, HGB.out, HNV.out, by rw [← HSZ0.out]; exact HBW.out⟩
                    exact AllReadyH.nil
                  exact AllReadyH.nil
                exact AllReadyH.nil
              exact AllReadyH.nil
            refine AllReadyH.cons (o := { dst := some 12, op := Op.alloc 29, type := 0, pos := "exact.go:4924", after := #[], guard := none }) rfl (fun K hK => ?_) ?_
            · go_simp
              (try have HNV0 := fun q (e : Value.ownBlock _ = some q) => (HO.out.lt q e).2)
              have HQ := HQ.new #[.int .i64 0, .slice none 0 0, .int .i64 0] 29
              (try have HO := Lib.hid (HO.out.alloc (.cells #[.int .i64 0, .slice none 0 0, .int .i64 0] 29)))
              (try have HRQ := rowC_alloc HRQ (.cells #[.int .i64 0, .slice none 0 0, .int .i64 0] 29))
              (try have HRT := rowI_alloc HRT (.cells #[.int .i64 0, .slice none 0 0, .int .i64 0] 29))
              refine hK.out _ _ (by (try dsimp only); (first | with_reducible exact HC _ HQ | with_reducible exact HC _ HQ.tail)) (fun hHeld => ?_)
              obtain ⟨wn, hwn⟩ : ∃ W, W = wd.alloc (.cells #[.int .i64 0, .slice none 0 0, .int .i64 0] 29) := ⟨_, rfl⟩
              obtain ⟨g, hg⟩ : ∃ k, k = wd.heap.size := ⟨_, rfl⟩
              have HGB := Lib.hid (show Bq ≤ g by rw [hg]; exact HSZ.out)
              have HBW := Lib.hid (HBW.out.alloc HSZ.out (.cells #[.int .i64 0, .slice none 0 0, .int .i64 0] 29))
              have HSZ : Hid (Bq ≤ (wd.alloc (.cells #[.int .i64 0, .slice none 0 0, .int .i64 0] 29)).heap.size) := Lib.hid (by have := HSZ.out; simp; omega)
              rw [← hwn] at HQ HSZ HBW hHeld ⊢
              (try rw [← hwn] at HO)
              (try rw [← hwn] at HRQ)
              (try rw [← hwn] at HRT)
              rw [← hg] at HQ ⊢
              (try rw [← hg] at HNV0)
              (try have HNV := Lib.hid (fun (e : Value.ownBlock _ = some g) => Nat.lt_irrefl _ (HNV0 g e)))
              (try clear HNV0)
              clear hwn hg
              clear hK K
              (try simp only [Act.put, List.setIfInBounds_toArray, List.set_cons_zero, List.set_cons_succ])
              refine wpAnyH_ready (rs := [1]) (by kernel_rfl) (by simp) ?_
              refine AllReadyH.cons (o := { dst := some 61, op := Op.call { callee := Callee.value (Operand.func 24), args := #[Operand.tmp 60], argTypes := #[43] }, type := 29, pos := "exact.go:4924", after := #[{ on := 0, ground := Ground.data }], guard := none }) rfl (fun K hK => ?_) ?_
              · go_simp
                (with_reducible refine (TC.out _ (HI.out _ HQ.below)).mono ?_)
                rintro e wd ⟨g6, rfl, _, ho6, hb7⟩
                have HQ := HQ.later hb7
                (try have HRT := HRT.later hb7)
                have HRQ := (RowC.of_own vg_len ho6 rfl : RowC 3 vg wd wd.heap.size (some ⟨g6, 0, none⟩) x0)
                have HBW := Lib.hid (HBW.out.trans (hb7.mono HSZ.out))
                have HSZ := Lib.hid (Nat.le_trans HSZ.out hb7.size)
                clear ho6 hb7
                (try go_wp2_with fail)
                refine hK.out _ _ (by (try dsimp only); (first | with_reducible exact HC _ HQ | with_reducible exact HC _ HQ.tail)) (fun hHeld => ?_)
                clear hK K
                (try simp only [Act.put, List.setIfInBounds_toArray, List.set_cons_zero, List.set_cons_succ])
                refine wpAnyH_ready (rs := [3]) (by kernel_rfl) (by simp) ?_
                refine AllReadyH.cons (o := { dst := some 63, op := Op.call { callee := Callee.value (Operand.func 38), args := #[Operand.tmp 62], argTypes := #[60] }, type := 50, pos := "exact.go:4924", after := #[{ on := 2, ground := Ground.data }, { on := 1, ground := Ground.chain }], guard := none }) rfl (fun K hK => ?_) ?_
                · go_simp
                  (with_reducible refine (HTL.out _).mono ?_)
                  rintro e wd ⟨rfl, hb7⟩
                  have HQ := HQ.later hb7
                  have HRQ := HRQ.later hb7
                  have HBW := Lib.hid (HBW.out.trans (hb7.mono HSZ.out))
                  have HSZ := Lib.hid (Nat.le_trans HSZ.out hb7.size)
                  clear hb7
                  (try go_wp2_with fail)
                  refine hK.out _ _ (by (try dsimp only); (first | with_reducible exact HC _ HQ | with_reducible exact HC _ HQ.tail)) (fun hHeld => ?_)
                  clear hK K
                  (try simp only [Act.put, List.setIfInBounds_toArray, List.set_cons_zero, List.set_cons_succ])
                  refine wpAnyH_ready (rs := [4]) (by kernel_rfl) (by simp) ?_
                  refine AllReadyH.cons (o := { dst := some 64, op := Op.call { callee := Callee.value (Operand.func 39), args := #[Operand.tmp 61, Operand.tmp 63], argTypes := #[29, 50] }, type := 29, pos := "exact.go:4924", after := #[{ on := 1, ground := Ground.data }, { on := 3, ground := Ground.data }, { on := 3, ground := Ground.chain }], guard := none }) rfl (fun K hK => ?_) ?_
                  · go_simp
                    (with_reducible refine (HIV.out _ _ HRQ).mono ?_)
                    rintro e wd ⟨A6, c6, rfl, ho6, hb7⟩
                    (try have HNV : Hid (Value.ownBlock (.slice A6 yy.length c6) ≠ some g) := Lib.hid (fun e => by have h1 := own_block ho6 g e; have h2 := (HQ.box 0).lt; omega))
                    have HQ := HQ.later hb7
                    have HO := Lib.hid (own_base ho6 HSZ.out)
                    have HBW := Lib.hid (HBW.out.trans (hb7.mono HSZ.out))
                    have HSZ := Lib.hid (Nat.le_trans HSZ.out hb7.size)
                    clear ho6 hb7 HRQ
                    (try go_wp2_with fail)
                    refine hK.out _ _ (by (try dsimp only); (first | with_reducible exact HC _ HQ | with_reducible exact HC _ HQ.tail)) (fun hHeld => ?_)
                    clear hK K
                    (try simp only [Act.put, List.setIfInBounds_toArray, List.set_cons_zero, List.set_cons_succ])
                    refine wpAnyH_ready (rs := [6]) (by kernel_rfl) (by simp) ?_
                    refine AllReadyH.cons (o := { dst := none, op := Op.store 29 (Operand.tmp 12) (Operand.tmp 64), type := 0, pos := "exact.go:4924", after := #[{ on := 5, ground := Ground.data }, { on := 4, ground := Ground.data }, { on := 4, ground := Ground.chain }, { on := 0, ground := Ground.phase }, { on := 1, ground := Ground.phase }, { on := 2, ground := Ground.phase }, { on := 3, ground := Ground.phase }, { on := 4, ground := Ground.phase }, { on := 5, ground := Ground.phase }], guard := none }) rfl (fun K hK => ?_) ?_
                    · have c60 := (HQ.box 0).c 0
                      have c61 := (HQ.box 0).c 1
                      have c62 := (HQ.box 0).c 2
                      have f60 := (HQ.box 0).f 0
                      have f61 := (HQ.box 0).f 1
                      have f62 := (HQ.box 0).f 2
                      go_simp
                      clear c60 c61 c62 f60 f61 f62
                      have HQ := ((HQ.put (by have h1 := HGB.out; have h2 := HBQ.out; omega) (fun p hp => by (have h1 := HGB.out; have h2 := HBQ.out; simp only [List.mem_cons, List.not_mem_nil, or_false] at hp; rcases hp with rfl | rfl | rfl | rfl | rfl <;> (show _ ≠ _) <;> omega)) 0 (.int .i64 LL)).put (by have h1 := HGB.out; have h2 := HBQ.out; omega) (fun p hp => by (have h1 := HGB.out; have h2 := HBQ.out; simp only [List.mem_cons, List.not_mem_nil, or_false] at hp; rcases hp with rfl | rfl | rfl | rfl | rfl <;> (show _ ≠ _) <;> omega)) 1 (.slice A6 yy.length c6)).put (by have h1 := HGB.out; have h2 := HBQ.out; omega) (fun p hp => by (have h1 := HGB.out; have h2 := HBQ.out; simp only [List.mem_cons, List.not_mem_nil, or_false] at hp; rcases hp with rfl | rfl | rfl | rfl | rfl <;> (show _ ≠ _) <;> omega)) 2 (.int .i64 KK)
                      have HO := Lib.hid (own_set3W HO.out HNV.out (.int .i64 LL) (.slice A6 yy.length c6) (.int .i64 KK))
                      have HBW := Lib.hid (((HBW.out.setCell (p := ⟨g, 0, none⟩) HGB.out (.int .i64 LL)).setCell (p := ⟨g, 1, none⟩) HGB.out (.slice A6 yy.length c6)).setCell (p := ⟨g, 2, none⟩) HGB.out (.int .i64 KK))
                      refine hK.out _ _ (by (try dsimp only); exact HC _ HQ.tail) (fun hHeld => ?_)
                      clear hK K
                      (try simp only [Act.put, List.setIfInBounds_toArray, List.set_cons_zero, List.set_cons_succ])
                      refine wpAnyH_done (by kernel_rfl) ?_ _
                      clear hHeld
                      go_wp2
                      go_meet
                      exact ⟨_, A6, c6, rfl, HQ, HO.out, HGB.out, HNV.out, by rw [← HSZ0.out]; exact HBW.out⟩
                    exact AllReadyH.nil
                  exact AllReadyH.nil
                exact AllReadyH.nil
              exact AllReadyH.nil
            exact AllReadyH.nil
          case rest =>
            clear HC HQ HCC
            obtain ⟨H0, A8, c8, rfl, HT, hown8, hB8, _, hbw8⟩ := hcut
            have HR := Lib.hid (HR.out.below (hbw8.mono (by omega)))
            have HM := Lib.hid (HM.out.later hbw8)
            have HO := Lib.hid hown8
            have hs13 : G0 + 1 ≤ wc.heap.size := Nat.le_trans hs11 hbw8.size
            clear hbw8 hs11 hown8 HBQ
            have k00 := (HT.box 0).c 0
            have k01 := (HT.box 0).c 1
            have k02 := (HT.box 0).c 2
            have k30 := (HT.box 3).c 0
            have k31 := (HT.box 3).c 1
            have k32 := (HT.box 3).c 2
            go_wp2_with fail
            refine (eqCache_same LL _ _ _ _ yy KK _ (RowC.of_own vg_len HO.out rfl) (HR.out.more (by omega)) (by have := HLEN.out; omega)).mono ?_
            rintro e w14 ⟨rfl, hb14⟩
            have HT := HT.later hb14
            have HM := Lib.hid (HM.out.later hb14)
            clear k00 k01 k02 k30 k31 k32 hb14 HO HR
            have k10 := (HT.box 1).c 0
            have k11 := (HT.box 1).c 1
            have k12 := (HT.box 1).c 2
            go_wp2_with fail
            refine (HHE _ HM.out).mono ?_
            rintro e w15 ⟨rfl, hb15⟩
            have HT := HT.later hb15
            clear k10 k11 k12 hb15 HM HHE
            go_wp2_with fail
            go_ret
            exact ⟨rfl, HT.below⟩
  · clear hfit
    go_wp2_with fail
    go_ret
    exact ⟨rfl, HT.below⟩

set_option maxRecDepth 100000 in
theorem lifted (os : Os) (started : os.Started) (H : Type) (enc : TypeId × Value → H) :
    ReturnsInHanded {} Try.checked os 8 .any (Rows.fnExactUseTileSpec.pre6 enc Try.prog Try.f8 Rows.fnExactUseTileRow.domain false) (Rows.fnExactUseTileSpec.post enc Try.prog Try.f8 false true false false) := by
  refine returnsInHanded_of_change (C := Try.checked) own started (by kernel_rfl) Try.func8
    (ChangeSpec.witness6 (enc := enc) (C := Try.checked) false ⟨#[], #[.agg #[.int .i64 0, .slice none 0 0, .int .i64 0], .agg #[.int .i64 0, .int .i64 0, .int .i64 0]], []⟩ 8 (by kernel_rfl) (by kernel_rfl) (by kernel_rfl) (by kernel_rfl)) ?_
  intro W base args ds gs before hval0 hW hcnd _
  have hval : ∀ (j : Nat) t v, Try.f8.params[j]? = some t → args[j]? = some v → Value.okWide Try.prog W .any base t v := hval0
  have hW' := hW
  obtain ⟨p, q, hA0, hV, rfl, hfz, hnd⟩ := hW
  have hA : DataW.TrodAll enc Try.prog W 0 (fun _ => true) true Try.f8.params.toList args.toList ds p := hA0
  rw [Try.params8] at hA hval
  obtain ⟨v0, vs0, d0, ds0, p0, q0, hargs, rfl, rfl, h0, r1000⟩ := trodAll_cons hA
  obtain ⟨v1, vs1, d1, ds1, p1, q1, rfl, rfl, rfl, h1, r1001⟩ := trodAll_cons r1000
  obtain ⟨rfl, rfl, rfl⟩ := trodAll_nil r1001
  obtain rfl : args = #[v0, v1] := by cases args; simp_all
  obtain ⟨rfl, rfl⟩ := trodVars_none hV
  have k0 := h0
  have lt0 : ∀ x ∈ p0, x.block < W.heap.size := by obtain ⟨m, hm⟩ := k0; exact DataW.trod_lt m _ _ _ hm
  have hv0 := hval 0 43 v0 rfl rfl
  obtain ⟨s0, t0, y0, n0, X0, Y0, Z0, rfl, hs0, ht0, hy0⟩ := open_trio (P := Try.prog) (t := 43) Try.underlying43 (by kernel_rfl) rfl rfl rfl (by kernel_rfl) (by kernel_rfl) (by kernel_rfl) hv0 h0
  obtain ⟨l0, e0, _, w0⟩ := DataW.trod_int Try.underlying3 hs0
  simp at e0
  subst e0
  obtain ⟨b0, e0, _, u0⟩ := DataW.trod_int Try.underlying3 hy0
  simp at e0
  subst e0
  obtain ⟨a0, c0, x0, rfl, r0, m0, q0⟩ := rowCW_of _ vg wf3 vg_v3 wf3_v3 Try.underlying41 (by kernel_rfl) flat60_ (by omega) ht0
  have k1 := h1
  have lt1 : ∀ x ∈ p1, x.block < W.heap.size := by obtain ⟨m, hm⟩ := k1; exact DataW.trod_lt m _ _ _ hm
  have hv1 := hval 1 60 v1 rfl rfl
  obtain ⟨zs1, hzs1, rfl, wzs1⟩ := open_flat (P := Try.prog) (t := 60) (n := 3) Try.underlying60 flat60_ hv1 h1
  obtain ⟨a1_0, a1_1, a1_2, rfl⟩ := list3 hzs1
  clear hA0
  refine (walk W l0 w0 a0 c0 x0 r0 m0 q0 b0 u0 a1_0 a1_1 a1_2 (wzs1 _ (by simp)) (wzs1 _ (by simp)) (wzs1 _ (by simp))).mono fun e W' ⟨he, bel⟩ => ?_
  subst he
  exact ⟨_, rfl, _, _, _, [], _, [], hW', trodAll_mk1 (shut_bool Try.underlying4 _), (trodAll_cons_mk (Below.trod laidOut (by kernel_rfl) (of_decide_eq_true (by kernel_rfl)) k0 bel lt0) (trodAll_cons_mk (Below.trod laidOut (by kernel_rfl) (of_decide_eq_true (by kernel_rfl)) k1 bel lt1) trodAll_mk0)), rfl, bel.frame _, fun h => by cases h⟩

theorem proved : Rows.FnExactUseTileSaid :=
  OpenClaim.holds_of_wide 8 Try.f8 rfl rfl rfl rfl rfl rfl rfl ⟨rfl, rfl, rfl, rfl, rfl⟩ rfl rfl rfl rfl rfl (by kernel_rfl) Try.func8 (by kernel_rfl)
    (of_decide_eq_true (by kernel_rfl)) (by unfold Func.isWrapper; first | (rw [if_pos (by decide +kernel)]; kernel_rfl) | (rw [if_neg (by decide +kernel)]; exact ⟨rfl, rfl⟩))
    (fun os started H enc _ => lifted os started H enc)
#print axioms proved
end Go.Proofs.Ytaelhbbfddcabaa.fnExactUseTile
