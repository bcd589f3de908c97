/-
  Proved: the law FnExactParse returns true for every input and its arguments read behind the call as they read before. Conditions: none of our own; those of the given row alone.
-/
import Derived.Test.YtkbdnjhgcoihhaaGreatDoorRows
import Derived.Test.YtkbdnjhgcoihhaaGreatDoorCards
import Derived.Test.YtkbdnjhgcoihhaaGreatDoorTie
import Derived.WalkKit
import Derived.ProofKit
import Derived.OpenShut
import Derived.ShutString
import Derived.SliceStrings
import Derived.ChangeOld
import Derived.Below
import Derived.Deep.DeepHandedRow
import Derived.Lib.LaidTab
import Derived.Test.YtkbdnjhgcoihhaaGreatDoorInts
import Derived.Test.YtkbdnjhgcoihhaaGreatDoorVbox
import Derived.Test.YtkbdnjhgcoihhaaGreatDoorHeld
import Derived.Test.YtkbdnjhgcoihhaaGreatDoorMem
import Derived.Test.YtkbdnjhgcoihhaaGreatDoorFlat
import Derived.Test.YtkbdnjhgcoihhaaGreatDoorRowC
import Derived.Test.YtkbdnjhgcoihhaaGreatDoorKS
import Derived.Test.YtkbdnjhgcoihhaaGreatDoorStrS
import Derived.Test.YtkbdnjhgcoihhaaGreatDoorIntS
import Derived.Test.YtkbdnjhgcoihhaaGreatDoorSS
import Derived.Test.YtkbdnjhgcoihhaaGreatDoorTok
import Derived.Test.YtkbdnjhgcoihhaaGreatDoorPg
import Derived.Test.YtkbdnjhgcoihhaaGreatDoorPh
import Derived.Test.YtkbdnjhgcoihhaaGreatDoorPi
import Derived.Test.YtkbdnjhgcoihhaaGreatDoorPj
import Derived.Test.YtkbdnjhgcoihhaaGreatDoorPk
import Derived.Test.YtkbdnjhgcoihhaaGreatDoorPl
import Derived.Test.YtkbdnjhgcoihhaaGreatDoorPm
import Derived.Test.YtkbdnjhgcoihhaaGreatDoorPp
import Derived.Test.YtkbdnjhgcoihhaaGreatDoorPq
import Derived.Test.YtkbdnjhgcoihhaaGreatDoorPr
import Derived.Test.YtkbdnjhgcoihhaaGreatDoorPs
import Derived.Test.YtkbdnjhgcoihhaaGreatDoorPt
import Derived.Test.YtkbdnjhgcoihhaaGreatDoorPu
import Derived.Test.YtkbdnjhgcoihhaaGreatDoorPv
import Derived.Test.YtkbdnjhgcoihhaaGreatDoorPw
import Derived.Test.YtkbdnjhgcoihhaaGreatDoorTp
import Derived.Test.YtkbdnjhgcoihhaaGreatDoorShelf
import Derived.Test.YtkbdnjhgcoihhaaGreatDoorRa
import Derived.Test.YtkbdnjhgcoihhaaGreatDoorRb
import Derived.Test.YtkbdnjhgcoihhaaGreatDoorRc
import Derived.Test.YtkbdnjhgcoihhaaGreatDoorRd
import Derived.Test.YtkbdnjhgcoihhaaGreatDoorRe
import Derived.Test.YtkbdnjhgcoihhaaGreatDoorRf
import Derived.Test.YtkbdnjhgcoihhaaGreatDoorRg
import Derived.Test.YtkbdnjhgcoihhaaGreatDoorRh
import Derived.Test.YtkbdnjhgcoihhaaGreatDoorRi
import Derived.Test.YtkbdnjhgcoihhaaGreatDoorRl
import Derived.Test.YtkbdnjhgcoihhaaGreatDoorDoorT
import Derived.Test.YtkbdnjhgcoihhaaGreatDoorAs
import Derived.Test.YtkbdnjhgcoihhaaGreatDoorTm
import Derived.Test.YtkbdnjhgcoihhaaGreatDoorIa
import Derived.Test.YtkbdnjhgcoihhaaGreatDoorIb
import Derived.Test.YtkbdnjhgcoihhaaGreatDoorIc
import Derived.Test.YtkbdnjhgcoihhaaGreatDoorRn
import Derived.Test.YtkbdnjhgcoihhaaGreatDoorRj
import Derived.Test.YtkbdnjhgcoihhaaGreatDoorRz
import Derived.Handy
namespace Go.Proofs.YtkbdnjhgcoihhaaGreatDoor.fnExactParse
open Go.ChangeShapes Go.WideShapes Go.ChangeAt Go.RowKit
open Go.ChangeMaps (open_string shut_string)
set_option linter.unusedVariables false

theorem own : ownKnob Tryz.prog.godebug = none := by kernel_rfl
theorem laidOut : laidOutB Tryz.prog = true := by kernel_rfl
set_option maxRecDepth 100000 in
set_option maxHeartbeats 8000000 in
theorem walk (w : World) (a0 : ByteArray) (w0 : a0.size ≤ maxLen) (HG : Hid (ErrT w)) :
    Calls Tryz.prog 3 #[.string a0] w fun e w' => e = .returned (.bool true) ∧ Below w.heap.size w w' := by
  by_cases hbig : a0.size ≤ 1048576
  · obtain ⟨ns, ys, o, h3, hl, hy, hout⟩ := par_out a0
    have hS := fun W => (sParse_any a0 W).mono (fun e w' h => hout W e w' h)
    have hI := fun W hE => (parse_any a0 W hE).mono (fun e w' h => hout W e w' h)
    have HS := Lib.hid hS
    have HI := Lib.hid hI
    have H3 := Lib.hid h3
    have HGL := Lib.hid HG.out.lt
    clear hS hI h3 hout
    go_enter Tryz.func3, Tryz.ntmps3
    go_wp2_with fail
    refine (HS.out _).mono ?_
    rintro e w1 ⟨N1, c1, ps1, B1, b1, hps1, rfl, hpg1, hb1⟩
    have HL1 : Hid (ps1.length = ns.length) := Lib.hid (by rw [← hps1, List.length_map])
    have hX : ProgIn w1 w1.heap.size N1 B1 ns ys := by
      have h := hpg1.read
      rw [hps1] at h
      exact h
    have hG := HG.out.later hb1
    have HT := ((Held.nil w).later hb1).new #[.slice N1 ps1.length c1, .slice B1 ys.length b1] 25
    have hX := hX.alloc (Nat.le_refl _) (.cells #[.slice N1 ps1.length c1, .slice B1 ys.length b1] 25)
    have hG := hG.later (show Below w1.heap.size w1 (w1.alloc (.cells #[.slice N1 ps1.length c1, .slice B1 ys.length b1] 25)) by go_grown)
    have hs1 : w.heap.size ≤ w1.heap.size := hb1.size
    have hs1' : w1.heap.size < (w1.alloc (.cells #[.slice N1 ps1.length c1, .slice B1 ys.length b1] 25)).heap.size := by simp
    dsimp only
    go_upto_region 4 with fail
    obtain ⟨W1, hW1⟩ : ∃ W, W = w1.alloc (.cells #[.slice N1 ps1.length c1, .slice B1 ys.length b1] 25) := ⟨_, rfl⟩
    obtain ⟨k3, hk3⟩ : ∃ k, k = w1.heap.size := ⟨_, rfl⟩
    rw [← hW1] at HT hX hG hs1' ⊢
    rw [← hk3] at HT hX hs1 hs1' ⊢
    have HG1 := Lib.hid hG
    have HX1 := Lib.hid hX
    have HK3 := Lib.hid (And.intro hs1 hs1')
    clear hX hG hb1 hpg1 hps1 hW1 hk3 hs1 hs1' HG
    go_wp2_with fail
    refine (HI.out _ HG1.out).mono ?_
    rintro e w2 ⟨N2, c2, ps2, B2, b2, hps2, rfl, hpg2, hb2⟩
    have HL2 : Hid (ps2.length = ns.length) := Lib.hid (by rw [← hps2, List.length_map])
    have hb2' : Below w2.heap.size w2 (w2.alloc (.cells #[.slice N2 ps2.length c2, .slice B2 ys.length b2] 25)) := by go_grown
    obtain ⟨base2, hB2⟩ : ∃ n, n = W1.heap.size := ⟨_, rfl⟩
    rw [← hB2] at hpg2
    have hlt : ∀ b, SP N2 B2 ps2 b → base2 ≤ b ∧ b < w2.heap.size := fun b hb => hpg2.lt hb
    have HT := (HT.later hb2).new #[.slice N2 ps2.length c2, .slice B2 ys.length b2] 25
    have hpg := progG_keep hpg2 (fun b _ hb => hb2'.block b hb)
    have hX := HX1.out.below ((hb2.mono (Nat.le_of_lt HK3.out.2)).trans (hb2'.mono (Nat.le_trans (Nat.le_of_lt HK3.out.2) hb2.size)))
    have hG := (HG1.out.later hb2).later hb2'
    have hbs : base2 ≤ (w2.alloc (.cells #[.slice N2 ps2.length c2, .slice B2 ys.length b2] 25)).heap.size ∧ k3 < base2 ∧ k3 ≤ w2.heap.size ∧ w2.heap.size ≤ (w2.alloc (.cells #[.slice N2 ps2.length c2, .slice B2 ys.length b2] 25)).heap.size := by
      have h1 := HK3.out.2
      have h2 := hb2.size
      have h3 := hb2'.size
      omega
    dsimp only
    go_upto_region 5 with fail
    obtain ⟨W2, hW2⟩ : ∃ W, W = w2.alloc (.cells #[.slice N2 ps2.length c2, .slice B2 ys.length b2] 25) := ⟨_, rfl⟩
    obtain ⟨k5, hk5⟩ : ∃ k, k = w2.heap.size := ⟨_, rfl⟩
    rw [← hW2] at HT hX hG hpg hbs ⊢
    rw [← hk5] at HT hlt hbs ⊢
    have hRi : ProgIn W2 W2.heap.size N2 B2 ns ys := by
      have h := hpg.read
      rw [hps2] at h
      exact h
    have hRs := hX.more (show k3 ≤ W2.heap.size by omega)
    have HMK : Hid (1 + offN ps2 ps2.length + 2 * ys.length ≤ 4611686018427387904 ∧ ps2.length ≤ 60) := Lib.hid (by
      have h1 := off_three ps2 (by rw [hps2]; exact H3.out)
      have h2 := HL2.out
      omega)
    have HEQ := Lib.hid (eqProg_n N2 B2 N1 B1 c2 b2 c1 b1 ps2.length ps1.length ns ys W2 hRi hRs HL2.out HL1.out hl hy H3.out)
    have HX2 := Lib.hid hX
    have HG2 := Lib.hid hG
    have HPG2 := Lib.hid hpg
    have HLT := Lib.hid hlt
    have HBS := Lib.hid hbs
    have e00 := (HT.box 0).c 0
    have e01 := (HT.box 0).c 1
    have e10 := (HT.box 1).c 0
    have e11 := (HT.box 1).c 1
    clear hB2 hX hG hpg hpg2 hb2 hb2' hlt hbs hps2 hW2 hk5 hRi hRs HG1 HX1
    go_wp2_with fail
    refine HEQ.out.mono ?_
    rintro e w3 ⟨rfl, hb3⟩
    have HT := HT.later hb3
    have hpg3 := progG_keep HPG2.out (fun b _ hb => hb3.block b hb)
    have HX3 := Lib.hid (HX2.out.below (hb3.mono (show k3 ≤ W2.heap.size by have := HBS.out; omega)))
    have HG3 := Lib.hid (HG2.out.later hb3)
    have hbs3 : base2 ≤ w3.heap.size := Nat.le_trans HBS.out.1 hb3.size
    have hks3 : k5 ≤ w3.heap.size := Nat.le_trans HBS.out.2.2.2 hb3.size
    have HMC := Lib.hid (markProg_any (qo_mark base2) N2 B2 c2 b2 base2 1 ps2 ys w3 hpg3 (Nat.le_refl _) HMK.out.1 (by have := HMK.out.2; omega))
    have HB3 := Lib.hid (And.intro hbs3 hks3)
    clear e00 e01 e10 e11 hpg3 hb3 hbs3 hks3 HEQ HPG2 HX2 HG2
    have e00 := (HT.box 0).c 0
    have e01 := (HT.box 0).c 1
    have e10 := (HT.box 1).c 0
    have e11 := (HT.box 1).c 1
    go_wp2_with fail
    refine HMC.out.mono ?_
    rintro e w4 ⟨rfl, hpg4, ht4⟩
    have hb4 : Below base2 w3 w4 := ht4.below HB3.out.1 (fun k hk => (HLT.out k hk).1)
    have HT := HT.turn' ht4 (fun k hk => by have := HLT.out k hk; have := HBS.out; have := HK3.out; omega) (fun p hp hk => by
      have h1 := HLT.out _ hk
      have h2 := HBS.out
      simp only [List.mem_cons, List.not_mem_nil, or_false] at hp
      rcases hp with rfl | rfl <;> simp only at h1 <;> omega)
    have HX4 := Lib.hid (HX3.out.below (hb4.mono (show k3 ≤ base2 by have := HBS.out; omega)))
    have HG4 : Hid (ErrT w4) := Lib.hid (by
      have hlt := HGL.out
      have h3 := HG3.out
      have h4 := HBS.out
      have h5 := HK3.out
      exact (hb4.cell (p := ⟨0, 0, none⟩) (by show 0 < base2; omega)).trans h3)
    have hrow := ndg_row hpg4.1
    have hrow' := RowC.of_own asg_len hpg4.2.1 rfl
    have HHC := Lib.hid (heldProg_any N2 B2 c2 b2 1 ps2 ys w4 hrow hrow' (Nat.le_refl _) HMK.out.1 (by have := HMK.out.2; omega))
    have HR4 := Lib.hid (And.intro hrow hrow')
    have hks4 : k3 ≤ w4.heap.size := by
      have h1 := ht4.size
      have h2 := HB3.out
      have h3 := HBS.out
      omega
    have HB4 := Lib.hid hks4
    obtain ⟨M, hM⟩ : ∃ M, M = 1 + offN ps2 ps2.length + 2 * ys.length := ⟨_, rfl⟩
    rw [← hM] at HHC ⊢
    have HM := Lib.hid hM
    have hM0 : ¬ ((M : Nat) : Int) < 0 := by omega
    clear e00 e01 e10 e11 hpg4 ht4 hb4 hrow hrow' hM hks4 HMC HX3 HG3 HB3
    have e00 := (HT.box 0).c 0
    have e01 := (HT.box 0).c 1
    have e10 := (HT.box 1).c 0
    have e11 := (HT.box 1).c 1
    go_wp2_with fail
    refine HHC.out.mono ?_
    rintro e w5 ⟨rfl, hb5⟩
    have HT := HT.later hb5
    have hG5 := HG4.out.later hb5
    have HX5 := Lib.hid (HX4.out.below (hb5.mono HB4.out))
    have HR5 := Lib.hid (And.intro (HR4.out.1.later hb5) (HR4.out.2.later hb5))
    have HPC := Lib.hid (HI.out _ hG5)
    have HB5 := Lib.hid (Nat.le_trans HB4.out hb5.size)
    clear e00 e01 e10 e11 hb5 hG5 HR4 HHC HX4 HG4 HB4
    go_wp2_with fail
    refine HPC.out.mono ?_
    rintro e w6 ⟨N6, c6, ps6, B6, b6, hps6, rfl, hpg6, hb6⟩
    have HL6 : Hid (ps6.length = ns.length) := Lib.hid (by rw [← hps6, List.length_map])
    have hb6' : Below w6.heap.size w6 (w6.alloc (.cells #[.slice N6 ps6.length c6, .slice B6 ys.length b6] 25)) := by go_grown
    have HT := (HT.later hb6).new #[.slice N6 ps6.length c6, .slice B6 ys.length b6] 25
    have hpg := progG_keep hpg6 (fun b _ hb => hb6'.block b hb)
    have hX := HX5.out.below ((hb6.mono HB5.out).trans (hb6'.mono (Nat.le_trans HB5.out hb6.size)))
    have hR := And.intro ((HR5.out.1.later hb6).later hb6') ((HR5.out.2.later hb6).later hb6')
    have hks6 : k3 ≤ (w6.alloc (.cells #[.slice N6 ps6.length c6, .slice B6 ys.length b6] 25)).heap.size := Nat.le_trans (Nat.le_trans HB5.out hb6.size) hb6'.size
    dsimp only
    go_upto_region 16 with fail
    obtain ⟨W6, hW6⟩ : ∃ W, W = w6.alloc (.cells #[.slice N6 ps6.length c6, .slice B6 ys.length b6] 25) := ⟨_, rfl⟩
    obtain ⟨k9, hk9⟩ : ∃ k, k = w6.heap.size := ⟨_, rfl⟩
    rw [← hW6] at HT hX hpg hR hks6 ⊢
    rw [← hk9] at HT ⊢
    have hRi : ProgIn W6 W6.heap.size N6 B6 ns ys := by
      have h := hpg.read
      rw [hps6] at h
      exact h
    have HEQ := Lib.hid (eqProg_n N6 B6 N1 B1 c6 b6 c1 b1 ps6.length ps1.length ns ys W6 hRi (hX.more hks6) HL6.out HL1.out hl hy H3.out)
    have HR6 := Lib.hid hR
    have e00 := (HT.box 0).c 0
    have e01 := (HT.box 0).c 1
    have e20 := (HT.box 2).c 0
    have e21 := (HT.box 2).c 1
    clear hX hpg hpg6 hb6 hb6' hps6 hW6 hk9 hRi hR hks6 HPC HX5 HR5 HB5
    go_wp2_with fail
    refine HEQ.out.mono ?_
    rintro e w7 ⟨rfl, hb7⟩
    have HT := HT.later hb7
    have HHC := Lib.hid (heldProg_any N2 B2 c2 b2 1 ps2 ys w7 (HR6.out.1.later hb7) (HR6.out.2.later hb7) (Nat.le_refl _) HMK.out.1 (by have := HMK.out.2; omega))
    rw [← HM.out] at HHC
    clear e00 e01 e20 e21 hb7 HR6 HEQ
    have e10 := (HT.box 1).c 0
    have e11 := (HT.box 1).c 1
    go_wp2_with fail
    refine HHC.out.mono ?_
    rintro e w8 ⟨rfl, hb8⟩
    have HT := HT.later hb8
    have HB := Lib.hid HT.below
    clear e10 e11 hb8 HHC HT
    go_wp2_with fail
    go_ret
    exact ⟨rfl, HB.out⟩
  · go_enter Tryz.func3, Tryz.ntmps3
    go_wp2_with fail
    go_ret
    exact ⟨rfl, Below.refl _ _⟩

set_option maxRecDepth 100000 in
theorem contract (H : Type) (enc : TypeId × Value → H) (W : World) (base : Nat) (args : Array Value) (ds gs : List (DataW H)) (before : List MemPlace)
    (hval : ∀ (j : Nat) t v, Tryz.f3.params[j]? = some t → args[j]? = some v → Value.okWide Tryz.prog W .any base t v)
    (hW : DataW.Whole enc Tryz.prog Tryz.f3.params.toList Rows.fnExactParseSpec.vars false W args.toList ds gs before) (hL : laidMetH Tryz.prog Rows.fnExactParseRow.laid W) :
    Calls Tryz.prog 3 args W fun e W' => ∃ v, e = .returned v ∧ Rows.fnExactParseSpec.post enc Tryz.prog Tryz.f3 false true false false W args v W' := by
  have hW' := hW
  obtain ⟨p, q, hA0, hV, rfl, hfz, hnd⟩ := hW
  have hA : DataW.TrodAll enc Tryz.prog W 0 (fun _ => true) true Tryz.f3.params.toList args.toList ds p := hA0
  rw [Tryz.params3] at hA hval
  obtain ⟨v0, vs0, d0, ds0, p0, q0, hargs, rfl, rfl, h0, r1000⟩ := trodAll_cons hA
  obtain ⟨rfl, rfl, rfl⟩ := trodAll_nil r1000
  obtain rfl : args = #[v0] := by cases args; simp_all
  obtain ⟨rfl, rfl⟩ := trodVars_none hV
  obtain ⟨a0, rfl, rfl, rfl, w0⟩ := open_string Tryz.underlying9 (hval 0 9 v0 rfl rfl) h0
  clear hA0
  refine (walk W a0 w0 (Lib.hid (errT_of _ (by kernel_rfl) hL))).mono fun e W' ⟨he, bel⟩ => ?_
  subst he
  exact ⟨_, rfl, _, _, _, [], _, [], hW', trodAll_mk1 (shut_bool Tryz.underlying4 _), (trodAll_cons_mk (shut_string Tryz.underlying9 w0) trodAll_mk0), rfl, bel.frame _, fun h => by cases h⟩

theorem laid_met (os : Os) : laidMetH Tryz.prog Rows.fnExactParseRow.laid ((laidWorldT os).forCall (fun _ _ => 0) ⟨#[], #[.string ByteArray.empty], []⟩).memory :=
  laidMetH_of_parts (laidMet_of_run' 8 (by kernel_rfl) (by kernel_rfl)) (by kernel_rfl)
theorem reads (os : Os) {H : Type} (enc : TypeId × Value → H) : ∃ d places, DataW.whole enc Tryz.prog ((laidWorldT os).forCall (fun _ _ => 0) ⟨#[], #[.string ByteArray.empty], []⟩).memory Tryz.f3.params.toList Rows.fnExactParseSpec.vars false (#[.string ByteArray.empty] : Array Value).toList 8 = some (d, [], places) :=
  ⟨[.lit (.string [])], [], by kernel_rfl⟩
set_option maxRecDepth 100000 in
theorem lifted (os : Os) (started : os.Started) (H : Type) (enc : TypeId × Value → H) (F : Stop.Interp) :
    ReturnsInHanded {} Tryz.checked os 3 .any ((OpenSpec.ofChange Rows.fnExactParseSpec).preRow enc Tryz.prog Tryz.f3 Rows.fnExactParseRow.domain false Rows.fnExactParseRow.laid) (((OpenSpec.ofChange Rows.fnExactParseSpec).at F).post enc Tryz.prog Tryz.f3 false true false false) := by
  obtain ⟨d, places, hx⟩ := reads os enc
  refine returnsInHanded_of_row (C := Tryz.checked) (s := OpenSpec.ofChange Rows.fnExactParseSpec) own started (by kernel_rfl) Tryz.func3
    (witness_row_at (enc := enc) (C := Tryz.checked) false (laidWorldT os) #[.string ByteArray.empty] rfl (by kernel_rfl) (by kernel_rfl) (by kernel_rfl)
      (OpenSpec.preRow_of_cond 8 hx (by kernel_rfl) (fun k hk => by cases hk) (by kernel_rfl) (laid_met os))) ?_
  intro W base args ds gs before hval hW _ _ _ hL _ _
  exact contract H enc W base args ds gs before hval hW hL
theorem said : Rows.FnExactParseSaid :=
  OpenClaim.holds_of_cond 3 Tryz.f3 rfl rfl rfl rfl rfl rfl rfl ⟨rfl, rfl, rfl, rfl, rfl⟩ rfl rfl rfl rfl rfl (by kernel_rfl) Tryz.func3 (by kernel_rfl)
    (of_decide_eq_true (by kernel_rfl)) (by unfold Func.isWrapper; first | (rw [if_pos (by decide +kernel)]; kernel_rfl) | (rw [if_neg (by decide +kernel)]; exact ⟨rfl, rfl⟩))
    (fun os started H enc _ F => by rw [OpenClaim.pre_eq_preRow]; exact lifted os started H enc F)
theorem plain (f : FuncId) (fn : Func) (hf : Tryz.pinned.checked.prog.funcNamed "loop.example/g00809/laws.FnExactParse" = some f) (hfn : Tryz.pinned.checked.prog.funcs[f]? = some fn) :
    true = Tryz.pinned.checked.prog.looks [] ∧ ∀ (j : Nat) t, fn.params[j]? = some t → Tryz.pinned.checked.prog.wantsStandIn t = false := by
  obtain rfl : f = 3 := Option.some.inj ((show Tryz.prog.funcNamed "loop.example/g00809/laws.FnExactParse" = some 3 by kernel_rfl).symm.trans hf) |>.symm
  obtain rfl : fn = Tryz.f3 := (Option.some.inj (Tryz.func3.symm.trans hfn)).symm
  refine ⟨by kernel_rfl, fun j t ht => ?_⟩
  rw [Tryz.params3] at ht
  have hm := Array.mem_of_getElem? ht
  simp only [List.mem_toArray, List.mem_cons, List.not_mem_nil, or_false] at hm
  rcases hm with rfl
  · exact (show Tryz.prog.wantsStandIn 9 = false by kernel_rfl)
theorem proved : Rows.FnExactParseCardSaid :=
  Claim7.holds_tied_plain_at .later [] _ _ _ _ said (fun _ h => by cases h) (by kernel_rfl) (fun _ h => by cases h) fnExactParse_row_tie rfl ⟨rfl, rfl⟩ (by kernel_rfl) rfl plain (by kernel_rfl)
#print axioms proved
end Go.Proofs.YtkbdnjhgcoihhaaGreatDoor.fnExactParse
