/-
  Proved: the law FnExactTileOf returns true for every input and its arguments read behind the call as they read before. Conditions: none of our own; those of the given row alone.
-/
import Derived.Test.YtaelhbbfddcabaaRows
import Derived.WalkKit
import Derived.ProofKit
import Derived.OpenShut
import Derived.ShutString
import Derived.SliceStrings
import Derived.ChangeOld
import Derived.Below
import Derived.Test.YtaelhbbfddcabaaMem
import Derived.Test.YtaelhbbfddcabaaInts
import Derived.Test.YtaelhbbfddcabaaFlat
import Derived.Test.YtaelhbbfddcabaaVbox
import Derived.Test.YtaelhbbfddcabaaHeld
import Derived.Test.YtaelhbbfddcabaaRowC
import Derived.Test.YtaelhbbfddcabaaKS
import Derived.Test.YtaelhbbfddcabaaStrS
import Derived.Test.YtaelhbbfddcabaaIntS
import Derived.Test.YtaelhbbfddcabaaSS
import Derived.Test.YtaelhbbfddcabaaPg
import Derived.Test.YtaelhbbfddcabaaVi
import Derived.Test.YtaelhbbfddcabaaVa
import Derived.Test.YtaelhbbfddcabaaVb
import Derived.Test.YtaelhbbfddcabaaVc
import Derived.Test.YtaelhbbfddcabaaVd
import Derived.Test.YtaelhbbfddcabaaVe
import Derived.Test.YtaelhbbfddcabaaVf
import Derived.Test.YtaelhbbfddcabaaVg
import Derived.Test.YtaelhbbfddcabaaVh
import Derived.Test.YtaelhbbfddcabaaWa
import Derived.Test.YtaelhbbfddcabaaWb
import Derived.Test.YtaelhbbfddcabaaWc
import Derived.Test.YtaelhbbfddcabaaWd
import Derived.Test.YtaelhbbfddcabaaWe
import Derived.Test.YtaelhbbfddcabaaWf
import Derived.Test.YtaelhbbfddcabaaWg
import Derived.Test.YtaelhbbfddcabaaWh
import Derived.Test.YtaelhbbfddcabaaWm
import Derived.Test.YtaelhbbfddcabaaWn
import Derived.Test.YtaelhbbfddcabaaWq
import Derived.Deep.RegionHeld3
import Derived.Deep.DeepCutAuto
import Derived.Handy
namespace Go.Proofs.Ytaelhbbfddcabaa.fnExactTileOf
open Go.ChangeShapes Go.WideShapes Go.ChangeAt Go.RowKit
open Go.ChangeMaps (open_string shut_string)
set_option linter.unusedVariables false

theorem own : ownKnob Try.prog.godebug = none := by kernel_rfl
theorem laidOut : laidOutB Try.prog = true := by kernel_rfl
set_option maxRecDepth 100000 in
set_option maxHeartbeats 8000000 in
theorem walk (w : World) (l0 : Int) (w0 : (Lit.int .i64 l0).wf = true) (a0 : Option Addr) (c0 : Nat) (x0 : List Int) (r0 : Row (Value.int .i64) w w.heap.size a0 x0) (m0 : x0.length ≤ maxLen) (u0 : ∀ z ∈ x0, (Lit.int .i64 z).wf = true) (a1 : Int) (w1 : (Lit.int .i64 a1).wf = true) (a2 : Int) (w2 : (Lit.int .i64 a2).wf = true) (a3 : Int) (w3 : (Lit.int .i64 a3).wf = true) :
    Calls Try.prog 6 #[.agg #[.int .i64 l0, .slice a0 x0.length c0], .int .i64 a1, .int .i64 a2, .int .i64 a3] w fun e w' => e = .returned (.bool true) ∧ Below w.heap.size w w' := by
  have HB1 := Lib.hid (bounds_i64 w1)
  have HB2 := Lib.hid (bounds_i64 w2)
  clear w1 w2 w3
  have HIN := Lib.hid r0
  have HMX := Lib.hid m0
  clear r0 m0 u0 w0
  have HT0 : Held w (w.alloc (.cells #[.int .i64 l0, .slice a0 x0.length c0] 47)) [(w.heap.size, [.int .i64 l0, .slice a0 x0.length c0])] := by
    have h := (Held.nil w).new #[.int .i64 l0, .slice a0 x0.length c0] 47
    simpa only [World.size_alloc] using h
  have HI : ∀ {bs : List (Nat × List Value)} (W : World), Held w W bs → Row I64 W W.heap.size a0 x0 := fun W h => (HIN.out.below h.below).more h.size
  have HS0 := szTex_any l0 a0 c0 x0 1048576 (w.alloc (.cells #[.int .i64 l0, .slice a0 x0.length c0] 47)) (by omega) (by have := HMX.out; unfold maxLen at this; omega)
  go_enter Try.func6, Try.ntmps6
  go_wp2_with fail
  refine HS0.mono ?_
  rintro e w1 ⟨hb1, hc⟩
  have HT := HT0.later hb1
  clear hb1 HT0 HS0
  rcases hc with ⟨hfit, rfl⟩ | ⟨hfit, rfl⟩
  · have hl : x0.length ≤ 1048576 := hfit
    obtain ⟨q, hq⟩ : ∃ q : Nat, q = 1048576 - x0.length := ⟨_, rfl⟩
    have hq0 : ¬ ((q : Nat) : Int) < 0 := by omega
    have hq1 : ((q : Nat) : Int) ≤ 1048576 := by omega
    rw [← hq]
    clear hq hfit
    obtain ⟨T, hT⟩ : ∃ T, T = tileP l0 x0 a1 a2 a3 := ⟨_, rfl⟩
    have HSV : ∀ W A c, Row I64 W W.heap.size A x0 → Calls Try.prog 26 #[txv l0 A x0.length c, .int .i64 a1, .int .i64 a2, .int .i64 a3] W fun e w' => e = .returned (tlv T.1 T.2.1 T.2.2) ∧ Below W.heap.size W w' := fun W A c h => by rw [hT]; exact sTileOf_any l0 A c x0 a1 a2 a3 W h hl
    have HIV : ∀ W A, Row I64 W W.heap.size A x0 → Calls Try.prog 28 #[txv l0 A x0.length x0.length, .int .i64 a1, .int .i64 a2, .int .i64 a3] W fun e w' => e = .returned (tlv T.1 T.2.1 T.2.2) ∧ Below W.heap.size W w' := fun W A h => by rw [hT]; exact tileOf_any l0 A x0.length x0 a1 a2 a3 W h hl (Nat.le_refl _) HB1.out.1 HB1.out.2 HB2.out.1 HB2.out.2
    obtain ⟨t0, t1, t2⟩ := T
    dsimp only at HSV HIV
    have HLEN : Hid (x0.length ≤ 1048576) := Lib.hid hl
    clear hT hl
    have c0' := (HT.box 0).c 0
    have c1' := (HT.box 0).c 1
    go_wp2_with fail
    refine (toTex_any l0 a0 c0 x0 _ (HI _ HT) (by have := HLEN.out; omega)).mono ?_
    rintro e w2 ⟨g2, rfl, _, ho2, hb2⟩
    have HT := HT.later hb2
    have HR2 := Lib.hid ho2.row
    clear hb2 c0' c1' ho2
    go_wp2_with fail
    refine (HSV _ _ _ HR2.out).mono ?_
    rintro e w3 ⟨rfl, hb3⟩
    have HT := (HT.later hb3).new #[.int .i64 t0, .int .i64 t1, .int .i64 t2] 50
    clear hb3 HR2
    have c0' := (HT.box 1).c 0
    have c1' := (HT.box 1).c 1
    go_wp2_with fail
    refine (toTex_any l0 a0 c0 x0 _ (HI _ HT) (by have := HLEN.out; omega)).mono ?_
    rintro e w4 ⟨g4, rfl, _, ho4, hb4⟩
    have HT := (HT.later hb4).new #[.int .i64 l0, .slice (some ⟨g4, 0, none⟩) x0.length x0.length] 25
    have hbx : Below w4.heap.size w4 (w4.alloc (.cells #[.int .i64 l0, .slice (some ⟨g4, 0, none⟩) x0.length x0.length] 25)) := by go_grown
    have HX := (ho4.later hbx).row
    clear hb4 ho4 c0' c1' hbx
    have c0' := (HT.box 0).c 0
    have c1' := (HT.box 0).c 1
    go_wp2_with fail
    refine (HIV _ _ HX).mono ?_
    rintro e w5 ⟨rfl, hb5⟩
    have HT := (HT.later hb5).new #[.int .i64 t0, .int .i64 t1, .int .i64 t2] 50
    have hbx : Below w5.heap.size w5 (w5.alloc (.cells #[.int .i64 t0, .int .i64 t1, .int .i64 t2] 50)) := by go_grown
    have HX := (HX.later hb5).later hbx
    clear hb5 c0' c1' hbx
    obtain ⟨X0, hX0⟩ : ∃ k, k = w4.heap.size := ⟨_, rfl⟩
    have n0 := (HT.box 0).c 0
    have n1 := (HT.box 0).c 1
    have n2 := (HT.box 0).c 2
    have q0 := (HT.box 2).c 0
    have q1 := (HT.box 2).c 1
    have q2 := (HT.box 2).c 2
    rw [← hX0] at HT ⊢
    clear hX0
    go_wp2_with fail
    refine (eqTile_same t0 t1 t2 _).mono ?_
    rintro e w6 ⟨rfl, hb6⟩
    have HX := HX.later hb6
    have HT : Held w w6 [(X0, [.int .i64 l0, .slice (some ⟨g4, 0, none⟩) x0.length x0.length]), (w.heap.size, [.int .i64 l0, .slice a0 x0.length c0])] := (HT.later hb6).pick (by simp)
    clear hb6 n0 n1 n2 q0 q1 q2
    have HC : ∀ W, Held w W [(X0, [.int .i64 l0, .slice (some ⟨g4, 0, none⟩) x0.length x0.length]), (w.heap.size, [.int .i64 l0, .slice a0 x0.length c0])] → (W.cell? ⟨X0, 0, none⟩ = some (.int .i64 l0) ∧ W.cell? ⟨X0, 1, none⟩ = some (.slice (some ⟨g4, 0, none⟩) x0.length x0.length) ∧ W.cell? ⟨w.heap.size, 0, none⟩ = some (.int .i64 l0) ∧ W.cell? ⟨w.heap.size, 1, none⟩ = some (.slice a0 x0.length c0)) := fun W h => ⟨(h.box 0).c 0, (h.box 0).c 1, (h.box 1).c 0, (h.box 1).c 1⟩
    go_wp2_with fail
    go_region_held3 (fun w' => w'.cell? ⟨X0, 0, none⟩ = some (.int .i64 l0) ∧ w'.cell? ⟨X0, 1, none⟩ = some (.slice (some ⟨g4, 0, none⟩) x0.length x0.length) ∧ w'.cell? ⟨w.heap.size, 0, none⟩ = some (.int .i64 l0) ∧ w'.cell? ⟨w.heap.size, 1, none⟩ = some (.slice a0 x0.length c0))
      (first | (with_reducible exact HC _ HT) | (with_reducible exact HC _ HT.drew))
      (first | (go_at_call 27; refine (toTex_any l0 a0 c0 x0 _ (by first | with_reducible exact HI _ HT | with_reducible exact HI _ HT.drew) (by have := HLEN.out; omega)).mono ?_; rintro e w1 ⟨g6, rfl, _, ho6, hb1⟩; have hm6 := ho6.row; clear ho6; (first | (have HX := HX.later hb1) | (have HX := (rowT_drew HX).later hb1)); (first | (have HT := HT.later hb1) | (have HT := HT.drew.later hb1))) | (go_at_call 30; refine (eqTex_same l0 _ _ _ _ x0 _ (by first | with_reducible exact HX | with_reducible exact rowT_drew HX) (by first | with_reducible exact hm6 | with_reducible exact rowT_drew hm6) (by have := HLEN.out; omega)).mono ?_; rintro e w1 ⟨rfl, hb1⟩; (first | (have HT := HT.later hb1) | (have HT := HT.drew.later hb1))))
    go_wp2
    go_ret
    exact ⟨rfl, HT.below⟩
  · clear hfit
    go_wp2_with fail
    go_ret
    exact ⟨rfl, HT.below⟩

set_option maxRecDepth 100000 in
theorem lifted (os : Os) (started : os.Started) (H : Type) (enc : TypeId × Value → H) :
    ReturnsInHanded {} Try.checked os 6 .any (Rows.fnExactTileOfSpec.pre6 enc Try.prog Try.f6 Rows.fnExactTileOfRow.domain false) (Rows.fnExactTileOfSpec.post enc Try.prog Try.f6 false true false false) := by
  refine returnsInHanded_of_change (C := Try.checked) own started (by kernel_rfl) Try.func6
    (ChangeSpec.witness6 (enc := enc) (C := Try.checked) false ⟨#[], #[.agg #[.int .i64 0, .slice none 0 0], .int .i64 0, .int .i64 0, .int .i64 0], []⟩ 8 (by kernel_rfl) (by kernel_rfl) (by kernel_rfl) (by kernel_rfl)) ?_
  intro W base args ds gs before hval0 hW hcnd _
  have hval : ∀ (j : Nat) t v, Try.f6.params[j]? = some t → args[j]? = some v → Value.okWide Try.prog W .any base t v := hval0
  have hW' := hW
  obtain ⟨p, q, hA0, hV, rfl, hfz, hnd⟩ := hW
  have hA : DataW.TrodAll enc Try.prog W 0 (fun _ => true) true Try.f6.params.toList args.toList ds p := hA0
  rw [Try.params6] at hA hval
  obtain ⟨v0, vs0, d0, ds0, p0, q0, hargs, rfl, rfl, h0, r1000⟩ := trodAll_cons hA
  obtain ⟨v1, vs1, d1, ds1, p1, q1, rfl, rfl, rfl, h1, r1001⟩ := trodAll_cons r1000
  obtain ⟨v2, vs2, d2, ds2, p2, q2, rfl, rfl, rfl, h2, r1002⟩ := trodAll_cons r1001
  obtain ⟨v3, vs3, d3, ds3, p3, q3, rfl, rfl, rfl, h3, r1003⟩ := trodAll_cons r1002
  obtain ⟨rfl, rfl, rfl⟩ := trodAll_nil r1003
  obtain rfl : args = #[v0, v1, v2, v3] := by cases args; simp_all
  obtain ⟨rfl, rfl⟩ := trodVars_none hV
  have k0 := h0
  have lt0 : ∀ x ∈ p0, x.block < W.heap.size := by obtain ⟨m, hm⟩ := k0; exact DataW.trod_lt m _ _ _ hm
  have hv0 := hval 0 47 v0 rfl rfl
  obtain ⟨s0, t0, n0, X0, Y0, rfl, hs0, ht0⟩ := open_pairP (P := Try.prog) (t := 47) Try.underlying47 (by kernel_rfl) rfl rfl (by kernel_rfl) (by kernel_rfl) hv0 h0
  obtain ⟨l0, e0, _, w0⟩ := DataW.trod_int Try.underlying3 hs0
  simp at e0
  subst e0
  obtain ⟨a0, c0, x0, rfl, r0, m0, u0⟩ : ∃ (a : Option Addr) (c : Nat) (xs : List Int), t0 = .slice a xs.length c ∧ Row (Value.int .i64) W W.heap.size a xs ∧ xs.length ≤ maxLen ∧ ∀ x ∈ xs, (Lit.int .i64 x).wf = true := by
    rcases open_ints Try.underlying23 Try.underlying3 (by kernel_rfl) ht0 with ⟨hcs, _⟩ | ⟨x, l, c, zs, hcs, _, hl, hm, hz, _, hcell, hwz⟩
    · simp at hcs
      exact ⟨none, 0, [], hcs, Row.nil, Nat.zero_le _, fun x hx => by cases hx⟩
    · simp at hcs
      have hlz : l ≤ zs.length := by rw [hz]; split <;> omega
      have hzm : zs.length ≤ maxLen := by rw [hz]; split <;> omega
      obtain ⟨ys, hyl, hr, hym, hyw⟩ := row_of_cells (f := Value.int .i64) (zs := zs) (d := (0 : Int)) (p := fun z => (Lit.int .i64 z).wf = true) hlz hzm rfl hcell hwz
      exact ⟨some x, c, ys, by rw [hcs, hyl], hr, hym, hyw⟩
  obtain ⟨a1, rfl, rfl, rfl, w1⟩ := open_int Try.underlying3 (hval 1 3 v1 rfl rfl) h1
  obtain ⟨a2, rfl, rfl, rfl, w2⟩ := open_int Try.underlying3 (hval 2 3 v2 rfl rfl) h2
  obtain ⟨a3, rfl, rfl, rfl, w3⟩ := open_int Try.underlying3 (hval 3 3 v3 rfl rfl) h3
  clear hA0
  refine (walk W l0 w0 a0 c0 x0 r0 m0 u0 a1 w1 a2 w2 a3 w3).mono fun e W' ⟨he, bel⟩ => ?_
  subst he
  exact ⟨_, rfl, _, _, _, [], _, [], hW', trodAll_mk1 (shut_bool Try.underlying4 _), (trodAll_cons_mk (Below.trod laidOut (by kernel_rfl) (of_decide_eq_true (by kernel_rfl)) k0 bel lt0) (trodAll_cons_mk (shut_int Try.underlying3 w1) (trodAll_cons_mk (shut_int Try.underlying3 w2) (trodAll_cons_mk (shut_int Try.underlying3 w3) trodAll_mk0)))), rfl, bel.frame _, fun h => by cases h⟩

theorem proved : Rows.FnExactTileOfSaid :=
  OpenClaim.holds_of_wide 6 Try.f6 rfl rfl rfl rfl rfl rfl rfl ⟨rfl, rfl, rfl, rfl, rfl⟩ rfl rfl rfl rfl rfl (by kernel_rfl) Try.func6 (by kernel_rfl)
    (of_decide_eq_true (by kernel_rfl)) (by unfold Func.isWrapper; first | (rw [if_pos (by decide +kernel)]; kernel_rfl) | (rw [if_neg (by decide +kernel)]; exact ⟨rfl, rfl⟩))
    (fun os started H enc _ => lifted os started H enc)
#print axioms proved
end Go.Proofs.Ytaelhbbfddcabaa.fnExactTileOf
