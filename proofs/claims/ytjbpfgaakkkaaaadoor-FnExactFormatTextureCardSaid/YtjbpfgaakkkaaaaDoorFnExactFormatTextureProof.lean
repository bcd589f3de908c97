/-
  Proved: the law FnExactFormatTexture returns true for every input and its arguments read behind the call as they read before. Conditions: none of our own; those of the given row alone.
-/
import Derived.Test.YtjbpfgaakkkaaaaDoorRows
import Derived.Test.YtjbpfgaakkkaaaaDoorCards
import Derived.Test.YtjbpfgaakkkaaaaDoorTie
import Derived.WalkKit
import Derived.ProofKit
import Derived.OpenShut
import Derived.ShutString
import Derived.SliceStrings
import Derived.ChangeOld
import Derived.Below
import Derived.Deep.DeepHandedRow
import Derived.Lib.LaidTab
import Derived.Test.YtjbpfgaakkkaaaaDoorMem
import Derived.Test.YtjbpfgaakkkaaaaDoorInts
import Derived.Test.YtjbpfgaakkkaaaaDoorFlat
import Derived.Test.YtjbpfgaakkkaaaaDoorVbox
import Derived.Test.YtjbpfgaakkkaaaaDoorHeld
import Derived.Test.YtjbpfgaakkkaaaaDoorRowC
import Derived.Test.YtjbpfgaakkkaaaaDoorKS
import Derived.Test.YtjbpfgaakkkaaaaDoorStrS
import Derived.Test.YtjbpfgaakkkaaaaDoorIntS
import Derived.Test.YtjbpfgaakkkaaaaDoorSS
import Derived.Test.YtjbpfgaakkkaaaaDoorPg
import Derived.Test.YtjbpfgaakkkaaaaDoorVi
import Derived.Test.YtjbpfgaakkkaaaaDoorVa
import Derived.Test.YtjbpfgaakkkaaaaDoorVb
import Derived.Test.YtjbpfgaakkkaaaaDoorNumP
import Derived.Test.YtjbpfgaakkkaaaaDoorIn
import Derived.Test.YtjbpfgaakkkaaaaDoorFmt
import Derived.Test.YtjbpfgaakkkaaaaDoorBuilder
import Derived.Test.YtjbpfgaakkkaaaaDoorFmts
import Derived.Test.YtjbpfgaakkkaaaaDoorDoor
import Derived.Test.YtjbpfgaakkkaaaaDoorVc
import Derived.Test.YtjbpfgaakkkaaaaDoorVd
import Derived.Test.YtjbpfgaakkkaaaaDoorVj
import Derived.Test.YtjbpfgaakkkaaaaDoorVr
import Derived.Deep.RegionHeld3
import Derived.Deep.DeepCutAuto
import Derived.Handy
namespace Go.Proofs.YtjbpfgaakkkaaaaDoor.fnExactFormatTexture
open Go.ChangeShapes Go.WideShapes Go.ChangeAt Go.RowKit
open Go.ChangeMaps (open_string shut_string)
set_option linter.unusedVariables false

theorem own : ownKnob Tryd.prog.godebug = none := by kernel_rfl
theorem laidOut : laidOutB Tryd.prog = true := by kernel_rfl
set_option maxRecDepth 100000 in
set_option maxHeartbeats 8000000 in
theorem walk (w : World) (l0 : Int) (w0 : (Lit.int .i64 l0).wf = true) (a0 : Option Addr) (c0 : Nat) (x0 : List Int) (r0 : Row (Value.int .i64) w w.heap.size a0 x0) (m0 : x0.length ≤ maxLen) (u0 : ∀ z ∈ x0, (Lit.int .i64 z).wf = true) (HP : Hid (Pow w)) :
    Calls Tryd.prog 4 #[.agg #[.int .i64 l0, .slice a0 x0.length c0]] w fun e w' => e = .returned (.bool true) ∧ Below w.heap.size w w' := by
  have HIN := Lib.hid r0
  have HMX := Lib.hid m0
  clear r0 m0 u0 w0
  have HT0 : Held w (w.alloc (.cells #[.int .i64 l0, .slice a0 x0.length c0] 35)) [(w.heap.size, [.int .i64 l0, .slice a0 x0.length c0])] := by
    have h := (Held.nil w).new #[.int .i64 l0, .slice a0 x0.length c0] 35
    simpa only [World.size_alloc] using h
  have HI : ∀ {bs : List (Nat × List Value)} (W : World), Held w W bs → Row I64 W W.heap.size a0 x0 := fun W h => (HIN.out.below h.below).more h.size
  have HDR : ∀ {W : World} {A : Option Addr} {xs : List Int}, Row I64 W W.heap.size A xs → Row I64 W.drew W.drew.heap.size A xs := fun h => h.keep fun _ _ => rfl
  have HS0 := szTex_any l0 a0 c0 x0 1048576 (w.alloc (.cells #[.int .i64 l0, .slice a0 x0.length c0] 35)) (by omega) (by have := HMX.out; unfold maxLen at this; omega)
  go_enter Tryd.func4, Tryd.ntmps4
  go_wp2_with fail
  refine HS0.mono ?_
  rintro e w1 ⟨hb1, hc⟩
  have HT := HT0.later hb1
  clear hb1 HT0 HS0
  rcases hc with ⟨hfit, rfl⟩ | ⟨hfit, rfl⟩
  · have hl : x0.length ≤ 1048576 := hfit
    obtain ⟨q, hq⟩ : ∃ q : Nat, q = 1048576 - x0.length := ⟨_, rfl⟩
    have hq0 : ¬ ((q : Nat) : Int) < 0 := by omega
    have hq1 : ((q : Nat) : Int) ≤ 1048576 := by omega
    rw [← hq]
    clear hq hfit
    obtain ⟨ans, hans⟩ : ∃ ans : ByteArray, ans = fmtTx l0 x0 := ⟨_, rfl⟩
    have HSV : ∀ W A c, Row I64 W W.heap.size A x0 → Calls Tryd.prog 14 #[txv l0 A x0.length c] W fun e w' => e = .returned (.string ans) ∧ Below W.heap.size W w' := fun W A c h => by rw [hans]; exact sFmtTx_any l0 A c x0 W h (by omega)
    have HIV : ∀ W A, Row I64 W W.heap.size A x0 → Pow W → Calls Tryd.prog 8 #[txv l0 A x0.length x0.length] W fun e w' => e = .returned (.string ans) ∧ Below W.heap.size W w' := fun W A h hP => by rw [hans]; exact fmtTx_any l0 A x0.length x0 W h hl hP
    have HLEN : Hid (x0.length ≤ 1048576) := Lib.hid hl
    clear hans hl
    have c0' := (HT.box 0).c 0
    have c1' := (HT.box 0).c 1
    go_wp2_with fail
    refine (toTex_any l0 a0 c0 x0 _ (HI _ HT) (by have := HLEN.out; omega)).mono ?_
    rintro e w2 ⟨g2, rfl, _, ho2, hb2⟩
    have HT := HT.later hb2
    have HR2 := Lib.hid ho2.row
    clear hb2 c0' c1' ho2
    go_wp2_with fail
    refine (HSV _ _ _ HR2.out).mono ?_
    rintro e w3 ⟨rfl, hb3⟩
    have HT := HT.later hb3
    clear hb3 HR2
    have c0' := (HT.box 0).c 0
    have c1' := (HT.box 0).c 1
    go_wp2_with fail
    refine (toTex_any l0 a0 c0 x0 _ (HI _ HT) (by have := HLEN.out; omega)).mono ?_
    rintro e w4 ⟨g4, rfl, _, ho4, hb4⟩
    have HT := (HT.later hb4).new #[.int .i64 l0, .slice (some ⟨g4, 0, none⟩) x0.length x0.length] 25
    have hbx : Below w4.heap.size w4 (w4.alloc (.cells #[.int .i64 l0, .slice (some ⟨g4, 0, none⟩) x0.length x0.length] 25)) := by go_grown
    have HX := (ho4.later hbx).row
    clear hb4 ho4 c0' c1' hbx
    have c0' := (HT.box 0).c 0
    have c1' := (HT.box 0).c 1
    go_wp2_with fail
    refine (HIV _ _ HX (HP.out.later HT.below)).mono ?_
    rintro e w5 ⟨rfl, hb5⟩
    have HT := HT.later hb5
    have HX := HX.later hb5
    clear hb5 c0' c1'
    obtain ⟨X0, hX0⟩ : ∃ k, k = w4.heap.size := ⟨_, rfl⟩
    rw [← hX0] at HT ⊢
    clear hX0
    have HC : ∀ W, Held w W [(X0, [.int .i64 l0, .slice (some ⟨g4, 0, none⟩) x0.length x0.length]), (w.heap.size, [.int .i64 l0, .slice a0 x0.length c0])] → (W.cell? ⟨X0, 0, none⟩ = some (.int .i64 l0) ∧ W.cell? ⟨X0, 1, none⟩ = some (.slice (some ⟨g4, 0, none⟩) x0.length x0.length) ∧ W.cell? ⟨w.heap.size, 0, none⟩ = some (.int .i64 l0) ∧ W.cell? ⟨w.heap.size, 1, none⟩ = some (.slice a0 x0.length c0)) := fun W h => ⟨(h.box 0).c 0, (h.box 0).c 1, (h.box 1).c 0, (h.box 1).c 1⟩
    
    go_wp2_with fail
    go_region_held3 (fun w' => w'.cell? ⟨X0, 0, none⟩ = some (.int .i64 l0) ∧ w'.cell? ⟨X0, 1, none⟩ = some (.slice (some ⟨g4, 0, none⟩) x0.length x0.length) ∧ w'.cell? ⟨w.heap.size, 0, none⟩ = some (.int .i64 l0) ∧ w'.cell? ⟨w.heap.size, 1, none⟩ = some (.slice a0 x0.length c0))
       (first | (with_reducible exact HC _ HT) | (with_reducible exact HC _ HT.drew))
       (first | (go_at_call 15; refine (toTex_any l0 a0 c0 x0 _ (by first | with_reducible exact HI _ HT | with_reducible exact HI _ HT.drew) (by have := HLEN.out; omega)).mono ?_; rintro e w1 ⟨g6, rfl, _, ho6, hb1⟩; have hm6 := ho6.row; clear ho6; (first | (have HX := HX.later hb1) | (have HX := (HDR HX).later hb1)); (first | (have HT := HT.later hb1) | (have HT := HT.drew.later hb1))) | (go_at_call 16; refine (eqTex_same l0 _ _ _ _ x0 _ (by first | with_reducible exact HX | with_reducible exact HDR HX) (by first | with_reducible exact hm6 | with_reducible exact HDR hm6) (by have := HLEN.out; omega)).mono ?_; rintro e w1 ⟨rfl, hb1⟩; (first | (have HT := HT.later hb1) | (have HT := HT.drew.later hb1))))
    clear HC HX HDR
    go_wp2
    go_ret
    exact ⟨rfl, HT.below⟩
  · clear hfit HDR
    go_wp2_with fail
    go_ret
    exact ⟨rfl, HT.below⟩

set_option maxRecDepth 100000 in
theorem contract (H : Type) (enc : TypeId × Value → H) (W : World) (base : Nat) (args : Array Value) (ds gs : List (DataW H)) (before : List MemPlace)
    (hval : ∀ (j : Nat) t v, Tryd.f4.params[j]? = some t → args[j]? = some v → Value.okWide Tryd.prog W .any base t v)
    (hW : DataW.Whole enc Tryd.prog Tryd.f4.params.toList Rows.fnExactFormatTextureSpec.vars false W args.toList ds gs before) (hL : laidMetH Tryd.prog Rows.fnExactFormatTextureRow.laid W) :
    Calls Tryd.prog 4 args W fun e W' => ∃ v, e = .returned v ∧ Rows.fnExactFormatTextureSpec.post enc Tryd.prog Tryd.f4 false true false false W args v W' := by
  have hW' := hW
  obtain ⟨p, q, hA0, hV, rfl, hfz, hnd⟩ := hW
  have hA : DataW.TrodAll enc Tryd.prog W 0 (fun _ => true) true Tryd.f4.params.toList args.toList ds p := hA0
  rw [Tryd.params4] at hA hval
  obtain ⟨v0, vs0, d0, ds0, p0, q0, hargs, rfl, rfl, h0, r1000⟩ := trodAll_cons hA
  obtain ⟨rfl, rfl, rfl⟩ := trodAll_nil r1000
  obtain rfl : args = #[v0] := by cases args; simp_all
  obtain ⟨rfl, rfl⟩ := trodVars_none hV
  have k0 := h0
  have lt0 : ∀ x ∈ p0, x.block < W.heap.size := by obtain ⟨m, hm⟩ := k0; exact DataW.trod_lt m _ _ _ hm
  have hv0 := hval 0 35 v0 rfl rfl
  obtain ⟨s0, t0, n0, X0, Y0, rfl, hs0, ht0⟩ := open_pairP (P := Tryd.prog) (t := 35) Tryd.underlying35 (by kernel_rfl) rfl rfl (by kernel_rfl) (by kernel_rfl) hv0 h0
  obtain ⟨l0, e0, _, w0⟩ := DataW.trod_int Tryd.underlying3 hs0
  simp at e0
  subst e0
  obtain ⟨a0, c0, x0, rfl, r0, m0, u0⟩ : ∃ (a : Option Addr) (c : Nat) (xs : List Int), t0 = .slice a xs.length c ∧ Row (Value.int .i64) W W.heap.size a xs ∧ xs.length ≤ maxLen ∧ ∀ x ∈ xs, (Lit.int .i64 x).wf = true := by
    rcases open_ints Tryd.underlying23 Tryd.underlying3 (by kernel_rfl) ht0 with ⟨hcs, _⟩ | ⟨x, l, c, zs, hcs, _, hl, hm, hz, _, hcell, hwz⟩
    · simp at hcs
      exact ⟨none, 0, [], hcs, Row.nil, Nat.zero_le _, fun x hx => by cases hx⟩
    · simp at hcs
      have hlz : l ≤ zs.length := by rw [hz]; split <;> omega
      have hzm : zs.length ≤ maxLen := by rw [hz]; split <;> omega
      obtain ⟨ys, hyl, hr, hym, hyw⟩ := row_of_cells (f := Value.int .i64) (zs := zs) (d := (0 : Int)) (p := fun z => (Lit.int .i64 z).wf = true) hlz hzm rfl hcell hwz
      exact ⟨some x, c, ys, by rw [hcs, hyl], hr, hym, hyw⟩
  clear hA0
  refine (walk W l0 w0 a0 c0 x0 r0 m0 u0 (Lib.hid (pow_of _ (by kernel_rfl) hL))).mono fun e W' ⟨he, bel⟩ => ?_
  subst he
  exact ⟨_, rfl, _, _, _, [], _, [], hW', trodAll_mk1 (shut_bool Tryd.underlying4 _), (trodAll_cons_mk (Below.trod laidOut (by kernel_rfl) (of_decide_eq_true (by kernel_rfl)) k0 bel lt0) trodAll_mk0), rfl, bel.frame _, fun h => by cases h⟩

theorem laid_met (os : Os) : laidMet Tryd.prog Rows.fnExactFormatTextureRow.laid ((laidWorld os).forCall (fun _ _ => 0) ⟨#[], #[.agg #[.int .i64 0, .slice none 0 0]], []⟩).memory :=
  laidMet_of_run' 8 (by kernel_rfl) (by kernel_rfl)
theorem reads (os : Os) {H : Type} (enc : TypeId × Value → H) : ∃ d places, DataW.whole enc Tryd.prog ((laidWorld os).forCall (fun _ _ => 0) ⟨#[], #[.agg #[.int .i64 0, .slice none 0 0]], []⟩).memory Tryd.f4.params.toList Rows.fnExactFormatTextureSpec.vars false (#[.agg #[.int .i64 0, .slice none 0 0]] : Array Value).toList 8 = some (d, [], places) :=
  ⟨[.agg [.lit (.int .i64 0), .nil]], [], by kernel_rfl⟩
set_option maxRecDepth 100000 in
theorem lifted (os : Os) (started : os.Started) (H : Type) (enc : TypeId × Value → H) (F : Stop.Interp) :
    ReturnsInHanded {} Tryd.checked os 4 .any ((OpenSpec.ofChange Rows.fnExactFormatTextureSpec).preRow enc Tryd.prog Tryd.f4 Rows.fnExactFormatTextureRow.domain false Rows.fnExactFormatTextureRow.laid) (((OpenSpec.ofChange Rows.fnExactFormatTextureSpec).at F).post enc Tryd.prog Tryd.f4 false true false false) := by
  obtain ⟨d, places, hx⟩ := reads os enc
  refine returnsInHanded_of_row (C := Tryd.checked) (s := OpenSpec.ofChange Rows.fnExactFormatTextureSpec) own started (by kernel_rfl) Tryd.func4
    (witness_row_at (enc := enc) (C := Tryd.checked) false (laidWorld os) #[.agg #[.int .i64 0, .slice none 0 0]] rfl (by kernel_rfl) (by kernel_rfl) (by kernel_rfl)
      (OpenSpec.preRow_of_cond 8 hx (by kernel_rfl) (fun k hk => by cases hk) (by kernel_rfl) (laid_met os))) ?_
  intro W base args ds gs before hval hW _ _ _ hL _ _
  exact contract H enc W base args ds gs before hval hW hL
theorem said : Rows.FnExactFormatTextureSaid :=
  OpenClaim.holds_of_cond 4 Tryd.f4 rfl rfl rfl rfl rfl rfl rfl ⟨rfl, rfl, rfl, rfl, rfl⟩ rfl rfl rfl rfl rfl (by kernel_rfl) Tryd.func4 (by kernel_rfl)
    (of_decide_eq_true (by kernel_rfl)) (by unfold Func.isWrapper; first | (rw [if_pos (by decide +kernel)]; kernel_rfl) | (rw [if_neg (by decide +kernel)]; exact ⟨rfl, rfl⟩))
    (fun os started H enc _ F => by rw [OpenClaim.pre_eq_preRow]; exact lifted os started H enc F)
theorem plain (f : FuncId) (fn : Func) (hf : Tryd.pinned.checked.prog.funcNamed "loop.example/g00809/laws.FnExactFormatTexture" = some f) (hfn : Tryd.pinned.checked.prog.funcs[f]? = some fn) :
    true = Tryd.pinned.checked.prog.looks [] ∧ ∀ (j : Nat) t, fn.params[j]? = some t → Tryd.pinned.checked.prog.wantsStandIn t = false := by
  obtain rfl : f = 4 := Option.some.inj ((show Tryd.prog.funcNamed "loop.example/g00809/laws.FnExactFormatTexture" = some 4 by kernel_rfl).symm.trans hf) |>.symm
  obtain rfl : fn = Tryd.f4 := (Option.some.inj (Tryd.func4.symm.trans hfn)).symm
  refine ⟨by kernel_rfl, fun j t ht => ?_⟩
  rw [Tryd.params4] at ht
  have hm := Array.mem_of_getElem? ht
  simp only [List.mem_toArray, List.mem_cons, List.not_mem_nil, or_false] at hm
  rcases hm with rfl
  · exact (show Tryd.prog.wantsStandIn 35 = false by kernel_rfl)
theorem proved : Rows.FnExactFormatTextureCardSaid :=
  Claim7.holds_tied_plain_at .later [] _ _ _ _ said (fun _ h => by cases h) (by kernel_rfl) (fun _ h => by cases h) fnExactFormatTexture_row_tie rfl ⟨rfl, rfl⟩ (by kernel_rfl) rfl plain (by kernel_rfl)
#print axioms proved
end Go.Proofs.YtjbpfgaakkkaaaaDoor.fnExactFormatTexture
