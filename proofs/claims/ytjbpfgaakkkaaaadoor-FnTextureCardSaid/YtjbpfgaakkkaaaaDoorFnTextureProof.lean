/-
  Proved: the law FnTexture returns true for every input and its arguments read behind the call as they read before. Conditions: none of our own; those of the given row alone.
-/
import Derived.Test.YtjbpfgaakkkaaaaDoorRows
import Derived.Test.YtjbpfgaakkkaaaaDoorCards
import Derived.Test.YtjbpfgaakkkaaaaDoorTie
import Derived.WalkKit
import Derived.ProofKit
import Derived.OpenShut
import Derived.ShutString
import Derived.SliceStrings
import Derived.ChangeOld
import Derived.Below
import Derived.Deep.DeepHandedRow
import Derived.Lib.LaidTab
import Derived.Test.YtjbpfgaakkkaaaaDoorMem
import Derived.Test.YtjbpfgaakkkaaaaDoorInts
import Derived.Test.YtjbpfgaakkkaaaaDoorFlat
import Derived.Test.YtjbpfgaakkkaaaaDoorVbox
import Derived.Test.YtjbpfgaakkkaaaaDoorHeld
import Derived.Test.YtjbpfgaakkkaaaaDoorRowC
import Derived.Test.YtjbpfgaakkkaaaaDoorKS
import Derived.Test.YtjbpfgaakkkaaaaDoorStrS
import Derived.Test.YtjbpfgaakkkaaaaDoorIntS
import Derived.Test.YtjbpfgaakkkaaaaDoorSS
import Derived.Test.YtjbpfgaakkkaaaaDoorVi
import Derived.Test.YtjbpfgaakkkaaaaDoorVa
import Derived.Test.YtjbpfgaakkkaaaaDoorVb
import Derived.Test.YtjbpfgaakkkaaaaDoorVc
import Derived.Test.YtjbpfgaakkkaaaaDoorVd
import Derived.Test.YtjbpfgaakkkaaaaDoorVe
import Derived.Test.YtjbpfgaakkkaaaaDoorVf
import Derived.Test.YtjbpfgaakkkaaaaDoorVg
import Derived.Test.YtjbpfgaakkkaaaaDoorVh
import Derived.Test.YtjbpfgaakkkaaaaDoorVx
import Derived.Test.YtjbpfgaakkkaaaaDoorNumP
import Derived.Test.YtjbpfgaakkkaaaaDoorIn
import Derived.Test.YtjbpfgaakkkaaaaDoorFmt
import Derived.Test.YtjbpfgaakkkaaaaDoorBuilder
import Derived.Test.YtjbpfgaakkkaaaaDoorFmts
import Derived.Test.YtjbpfgaakkkaaaaDoorSplit
import Derived.Test.YtjbpfgaakkkaaaaDoorParse
import Derived.Test.YtjbpfgaakkkaaaaDoorParses
import Derived.Test.YtjbpfgaakkkaaaaDoorRound
import Derived.Test.YtjbpfgaakkkaaaaDoorNumsRound
import Derived.Test.YtjbpfgaakkkaaaaDoorDoor
import Derived.Test.YtjbpfgaakkkaaaaDoorDoorErr
import Derived.Test.YtjbpfgaakkkaaaaDoorVj
import Derived.Test.YtjbpfgaakkkaaaaDoorVk
import Derived.Test.YtjbpfgaakkkaaaaDoorVl
import Derived.Test.YtjbpfgaakkkaaaaDoorVm
import Derived.Test.YtjbpfgaakkkaaaaDoorVn
import Derived.Test.YtjbpfgaakkkaaaaDoorVo
import Derived.Test.YtjbpfgaakkkaaaaDoorVp
import Derived.Test.YtjbpfgaakkkaaaaDoorVq
import Derived.Test.YtjbpfgaakkkaaaaDoorVr
import Derived.Test.YtjbpfgaakkkaaaaDoorCur
import Derived.Test.YtjbpfgaakkkaaaaDoorGd
import Derived.Test.YtjbpfgaakkkaaaaDoorVs
import Derived.Deep.RegionHeld3
import Derived.Deep.DeepCutAuto
import Derived.Handy
namespace Go.Proofs.YtjbpfgaakkkaaaaDoor.fnTexture
open Go.ChangeShapes Go.WideShapes Go.ChangeAt Go.RowKit
open Go.ChangeMaps (open_string shut_string)
set_option linter.unusedVariables false

theorem own : ownKnob Tryd.prog.godebug = none := by kernel_rfl
theorem laidOut : laidOutB Tryd.prog = true := by kernel_rfl
theorem fmtTx_size {L : Int} {ts : List Int} (h : okX L ts = true) : (fmtTx L ts).size ≤ 8192 := by
  have hl := okX_len2 h
  have h1 := fmtP_size L
  have h2 : (fmtsP ts).size ≤ 12 * ts.length + 1 := by
    unfold fmtsP
    split
    · show 1 ≤ _; omega
    · split
      · unfold joinP
        rw [strOf_size]
        have h1 := joinN_len comma (ts.map fmtP) (ts.map fmtP).length
        have h2 := sizeN_fmt ts (ts.map fmtP).length
        have h3 : comma.size = 1 := rfl
        rw [h3] at h1
        simp only [List.length_map] at h1 h2 ⊢
        omega
      · exact Nat.zero_le _
  unfold fmtTx
  rw [if_pos h, ByteArray.size_append, ByteArray.size_append]
  have h3 : colonT.size = 1 := rfl
  omega
set_option maxRecDepth 100000 in
set_option maxHeartbeats 16000000 in
theorem walk (w : World) (a0 : Option Addr) (c0 : Nat) (x0 : List Int) (r0 : Row (Value.int .u8) w w.heap.size a0 x0) (m0 : x0.length ≤ maxLen) (w0 : ∀ x ∈ x0, (Lit.int .u8 x).wf = true) (HP : Hid (Pow w)) (HE : Hid (Errs w)) :
    Calls Tryd.prog 3 #[.slice a0 x0.length c0] w fun e w' => e = .returned (.bool true) ∧ Below w.heap.size w w' := by
  have H8 : Hid (∀ x ∈ x0, 0 ≤ x ∧ x ≤ 255) := Lib.hid (fun x hx => bounds_u8 (w0 x hx))
  have HR : Hid (∀ W, Below w.heap.size w W → Row U8 W W.heap.size a0 x0) := Lib.hid (fun W h => r0.later h)
  have HPE : Hid (∀ W, Below w.heap.size w W → Pow W ∧ Errs W) := Lib.hid (fun W h => ⟨HP.out.later h, HE.out.later h⟩)
  clear w0 r0
  by_cases hbig : x0.length ≤ 1048576
  · have HBIG := Lib.hid hbig
    go_enter Tryd.func3, Tryd.ntmps3
    go_wp2_with fail
    refine (makeTex_any _ _ x0 _ (HR.out _ (Below.refl _ _)) H8.out hbig).mono ?_
    rintro e w1 ⟨L, ts, A, c, hok, rfl, ho1, hb1⟩
    have hl := (okX_len2 hok)
    have HOK := Lib.hid (And.intro hok (And.intro hl (own_capT ho1)))
    have HT := ((Held.nil w).later hb1).new #[.int .i64 L, .slice A ts.length c] 25
    have RA := (Row.of_own ho1 : Row I64 w1 w1.heap.size A ts).alloc (Nat.le_refl _) (.cells #[.int .i64 L, .slice A ts.length c] 25)
    have RA := RA.more (show w1.heap.size ≤ (w1.alloc (.cells #[.int .i64 L, .slice A ts.length c] 25)).heap.size by simp)
    obtain ⟨s, hs⟩ : ∃ s, s = fmtTx L ts := ⟨_, rfl⟩
    have HS := Lib.hid (And.intro hs (show s.size ≤ 1048576 by rw [hs]; have := fmtTx_size hok; omega))
    have HF := Lib.hid (fun W (h : Row I64 W W.heap.size A ts) (hp : Pow W) => fmtTx_any L A c ts W h (by omega) hp)
    rw [← hs] at HF
    have hw1 := hb1.size
    clear hbig hb1 hok hl ho1 hs
    go_upto_region 4 with fail
    obtain ⟨W2, hW2⟩ : ∃ W, W = w1.alloc (.cells #[.int .i64 L, .slice A ts.length c] 25) := ⟨_, rfl⟩
    obtain ⟨k3, hk3⟩ : ∃ k, k = w1.heap.size := ⟨_, rfl⟩
    rw [← hW2] at HT RA ⊢
    rw [← hk3] at HT hw1 ⊢
    have HK3 := Lib.hid hw1
    clear hW2 hk3 hw1
    have m0 := (HT.box 0).c 0
    have m1 := (HT.box 0).c 1
    go_wp2_with fail
    refine (HF.out _ RA (HPE.out _ HT.below).1).mono ?_
    rintro e w3 ⟨rfl, hb3⟩
    have HT := HT.later hb3
    have RA := RA.later hb3
    clear hb3 m0 m1
    go_wp2_with fail
    refine (parseTx_any s _ HS.out.2 (HPE.out _ HT.below).1 (HPE.out _ HT.below).2).mono ?_
    rintro e w4 ⟨b, M, us, A2, c2, rfl, ho2, ht, hf, hb4⟩
    have HT := HT.later hb4
    have RA := RA.later hb4
    cases b with
    | false => exact absurd HS.out.1.symm ((hf rfl).2.2 L ts HOK.out.1)
    | true =>
      obtain ⟨hok2, he2⟩ := ht rfl
      obtain ⟨rfl, rfl⟩ := fmtTx_inj HOK.out.1 hok2 (HS.out.1.symm.trans he2.symm)
      have HT := HT.new #[.int .i64 L, .slice A2 ts.length c2] 25
      have hbx : Below w4.heap.size w4 (w4.alloc (.cells #[.int .i64 L, .slice A2 ts.length c2] 25)) := by go_grown
      have RA := RA.later hbx
      have RB := (Row.of_own ho2 : Row I64 w4 w4.heap.size A2 ts).later hbx
      have hk4 : k3 < w4.heap.size := (show Mbox w4 k3 [.int .i64 L, .slice A ts.length c] from (show Held w w4 [(k3, [.int .i64 L, .slice A ts.length c])] from ⟨‹Held w w4 [(k3, [.int .i64 L, .slice A ts.length c])]›.1, ‹Held w w4 [(k3, [.int .i64 L, .slice A ts.length c])]›.2⟩).box 0).lt
      clear hb4 ho2 ht hf hok2 he2 hbx
      go_upto_region 5 with fail
      obtain ⟨W5, hW5⟩ : ∃ W, W = w4.alloc (.cells #[.int .i64 L, .slice A2 ts.length c2] 25) := ⟨_, rfl⟩
      obtain ⟨k4, hk⟩ : ∃ k, k = w4.heap.size := ⟨_, rfl⟩
      rw [← hW5] at HT RA RB ⊢
      rw [← hk] at HT hk4 ⊢
      have HK4 := Lib.hid hk4
      clear hW5 hk hk4
      have m1 := (HT.box 1).c 1
      have HTI := Lib.hid HT
      have HRA := Lib.hid RA
      have HRB := Lib.hid RB
      have HOT : Hid (okTx L ts) := Lib.hid (okX_iff.1 HOK.out.1)
      clear HT RA RB
      go_wp2_with fail
      go_loop [25, 6, 7] (fun i lo hi => ∃ (k : Nat) (l h : Int), k ≤ ts.length ∧ i = .int .i64 k ∧ lo = .int .i64 l ∧ hi = .int .i64 h ∧ (0 ≤ l ∧ l ≤ 256 ∧ 0 ≤ h ∧ h ≤ 256) ∧ ∀ j (hj : j < ts.length), j < k → l ≤ ts[j] ∧ ts[j] ≤ h) (fun i _ _ => ts.length - (intOf i).toNat)
      case atStart => exact ⟨0, 256, 0, Nat.zero_le _, rfl, rfl, rfl, by omega, fun j _ h => by omega⟩
      case round =>
        obtain ⟨k, l, h, hk, rfl, rfl, rfl, hbd, hin⟩ := hrel
        by_cases hlt : k < ts.length
        · obtain ⟨b, o, hA, _, hc⟩ := HRA.out.at hlt
          subst hA
          obtain ⟨x, hx⟩ : ∃ x, x = ts[k] := ⟨_, rfl⟩
          have hxb := HOT.out.2.2 ts[k] (List.getElem_mem hlt)
          rw [← hx] at hc hxb
          have hlt' : (k : Int) < (ts.length : Int) := by omega
          have hge' : (0 : Int) ≤ (k : Int) := by omega
          obtain ⟨l2, hl2⟩ : ∃ v, v = clampP l 0 x := ⟨_, rfl⟩
          obtain ⟨h2, hh2⟩ : ∃ v, v = clampP x h 256 := ⟨_, rfl⟩
          have q1 : 0 ≤ l2 ∧ l2 ≤ l ∧ l2 ≤ x := by
            rw [hl2]; unfold clampP
            split
            · omega
            · split <;> omega
          have q2 : h ≤ h2 ∧ x ≤ h2 ∧ h2 ≤ 256 := by
            rw [hh2]; unfold clampP
            split
            · omega
            · split <;> omega
          have HC1 := Lib.hid (fun W => clamp_any l 0 x W)
          have HC2 := Lib.hid (fun W => clamp_any x h 256 W)
          rw [← hl2] at HC1
          rw [← hh2] at HC2
          have HIN : Hid (∀ j (hj : j < ts.length), j < k + 1 → l2 ≤ ts[j] ∧ ts[j] ≤ h2) := Lib.hid fun j hj hjk => by
            rcases Nat.lt_or_ge j k with h1 | h1
            · have := hin j hj h1; omega
            · obtain rfl : j = k := by omega
              rw [← hx]; omega
          have HBD : Hid (0 ≤ l2 ∧ l2 ≤ 256 ∧ 0 ≤ h2 ∧ h2 ≤ 256) := Lib.hid (by omega)
          have hln : ts.length ≤ 256 := HOK.out.2.1
          clear hin hx hl2 hh2 q1 q2 hbd hxb
          go_wp2_with fail
          refine (HC1.out _).mono ?_
          rintro e w6 ⟨rfl, rfl⟩
          go_wp2_with fail
          refine (HC2.out _).mono ?_
          rintro e w6 ⟨rfl, rfl⟩
          go_wp2_with fail
          go_round
          case rel => exact ⟨k + 1, l2, h2, by omega, by go_num, rfl, rfl, HBD.out, HIN.out⟩
          case measure => simp [intOf]; omega
        · have HIN : Hid (∀ x ∈ ts, l ≤ x ∧ x ≤ h) := Lib.hid fun x hx => by
            obtain ⟨j, hj, rfl⟩ := List.getElem_of_mem hx
            exact hin j hj (by omega)
          obtain rfl : k = ts.length := by omega
          have hni : ¬ ((ts.length : Nat) : Int) < ((ts.length : Nat) : Int) := by omega
          have HT : Held W5 W5 [(k3, [.int .i64 L, .slice A ts.length c])] := (Held.nil W5).cons (HTI.out.box 1)
          have HRA9 := Lib.hid (fun W (h : Below W5.heap.size W5 W) => HRA.out.later h)
          have HRU9 := Lib.hid (fun W (h : Below W5.heap.size W5 W) => HR.out W (HTI.out.below.trans (h.mono HTI.out.below.size)))
          have HLK := Lib.hid (fun (u v lv : Int) W (h : Below W5.heap.size W5 W) => lookup_any L A c ts u v lv W (HRA9.out W h) (by have := HOK.out; omega) HOK.out.2.2)
          have HNM := Lib.hid (fun (n : Int) W (h : Below W5.heap.size W5 W) (h0 : 0 ≤ n ∧ n ≤ 3) => makeNum_any a0 c0 x0 n W (HRU9.out W h) H8.out HBIG.out h0.1 (by omega))
          have HC : ∀ W', Held W5 W' [(k3, [.int .i64 L, .slice A ts.length c])] → W'.cell? ⟨k3, 0, none⟩ = some (.int .i64 L) ∧ W'.cell? ⟨k3, 1, none⟩ = some (.slice A ts.length c) := fun W' h => ⟨(h.box 0).c 0, (h.box 0).c 1⟩
          clear hin hlt hk m1 hbd
          go_upto_region 13 with fail
          go_cut [10] (fun y wx => ∃ z : Int, y = .int .i64 z ∧ l ≤ z ∧ z ≤ h ∧ Below W5.heap.size W5 wx)
          case first =>
            go_region_held3 (fun W' => W'.cell? ⟨k3, 0, none⟩ = some (.int .i64 L) ∧ W'.cell? ⟨k3, 1, none⟩ = some (.slice A ts.length c))
              (first | (with_reducible exact HC _ HT) | (with_reducible exact HC _ HT.drew))
              (first | (go_at_call 11; (with_reducible refine (HNM.out _ _ (by first | with_reducible exact HT.below | with_reducible exact HT.drew.below) (by omega)).mono ?_); rintro e w7 ⟨x, x0', x1', rfl, hb7⟩; (first | (have HT := HT.later hb7) | (have HT := HT.drew.later hb7))) | (go_at_call 10; (with_reducible refine (HLK.out _ _ _ _ (by first | with_reducible exact HT.below | with_reducible exact HT.drew.below)).mono ?_); rintro e w7 ⟨rfl, hb7⟩; (first | (have HT := HT.later hb7) | (have HT := HT.drew.later hb7))))
            all_goals (go_wp2_with fail; go_meet)
            all_goals (first | exact ⟨_, rfl, (lkP_in HOK.out.1 HIN.out _ _ _).1, (lkP_in HOK.out.1 HIN.out _ _ _).2, HT.below⟩ | exact ⟨_, rfl, (lkP_in HOK.out.1 HIN.out _ _ _).1, (lkP_in HOK.out.1 HIN.out _ _ _).2, HT.drew.below⟩)
          case rest =>
            clear HC HT
            obtain ⟨z, rfl, hz1, hz2, hb9⟩ := hcut
            have HT := HTI.out.later hb9
            have HSI := Lib.hid (sameInts_same A2 A c2 c ts wc _ (HRB.out.later hb9) (HRA.out.later hb9) (by have := HOK.out; omega))
            have m0 := (HT.box 0).c 0
            have m1 := (HT.box 0).c 1
            have n0 := (HT.box 1).c 0
            have n1 := (HT.box 1).c 1
            have HTB := Lib.hid HT.below
            have d1 : decide (l ≤ z) = true := decide_eq_true hz1
            have d2 : decide (z ≤ h) = true := decide_eq_true hz2
            clear HT hb9 hni
            go_wp2_with fail
            refine HSI.out.mono ?_
            rintro e w9 ⟨rfl, rfl⟩
            go_wp2_with fail
            go_ret
            exact ⟨rfl, HTB.out⟩
  · have hbig' : (1048576 : Int) < (x0.length : Int) := by omega
    go_enter Tryd.func3, Tryd.ntmps3
    go_wp2
    go_ret
    exact ⟨rfl, Below.refl _ _⟩

set_option maxRecDepth 100000 in
theorem contract (H : Type) (enc : TypeId × Value → H) (W : World) (base : Nat) (args : Array Value) (ds gs : List (DataW H)) (before : List MemPlace)
    (hval : ∀ (j : Nat) t v, Tryd.f3.params[j]? = some t → args[j]? = some v → Value.okWide Tryd.prog W .any base t v)
    (hW : DataW.Whole enc Tryd.prog Tryd.f3.params.toList Rows.fnTextureSpec.vars false W args.toList ds gs before) (hL : laidMetH Tryd.prog Rows.fnTextureRow.laid W) :
    Calls Tryd.prog 3 args W fun e W' => ∃ v, e = .returned v ∧ Rows.fnTextureSpec.post enc Tryd.prog Tryd.f3 false true false false W args v W' := by
  have hW' := hW
  obtain ⟨p, q, hA0, hV, rfl, hfz, hnd⟩ := hW
  have hA : DataW.TrodAll enc Tryd.prog W 0 (fun _ => true) true Tryd.f3.params.toList args.toList ds p := hA0
  rw [Tryd.params3] at hA hval
  obtain ⟨v0, vs0, d0, ds0, p0, q0, hargs, rfl, rfl, h0, r1000⟩ := trodAll_cons hA
  obtain ⟨rfl, rfl, rfl⟩ := trodAll_nil r1000
  obtain rfl : args = #[v0] := by cases args; simp_all
  obtain ⟨rfl, rfl⟩ := trodVars_none hV
  obtain ⟨a0, len0, cap0, rfl⟩ := okWide_slice Tryd.underlying22 (hval 0 22 v0 rfl rfl)
  have k0 := h0
  have lt0 : ∀ x ∈ p0, x.block < W.heap.size := by obtain ⟨m, hm⟩ := k0; exact DataW.trod_lt m _ _ _ hm
  obtain ⟨x0, rfl, r0, m0, w0⟩ : ∃ xs : List Int, len0 = xs.length ∧ Row (Value.int .u8) W W.heap.size a0 xs ∧ xs.length ≤ maxLen ∧ ∀ x ∈ xs, (Lit.int .u8 x).wf = true := by
    obtain ⟨fuel, hf⟩ := h0
    rcases open_ints Tryd.underlying22 Tryd.underlying5 (by kernel_rfl) hf with ⟨hcs, _⟩ | ⟨x, l, c, zs, hcs, _, hl, hm, hz, _, hcell, hwz⟩
    · simp [Value.cells] at hcs
      obtain ⟨rfl, rfl, rfl⟩ := hcs
      exact ⟨[], rfl, Row.nil, Nat.zero_le _, fun x hx => by cases hx⟩
    · simp [Value.cells] at hcs
      obtain ⟨rfl, rfl, rfl⟩ := hcs
      exact row_of_cells (d := (0 : Int)) hl hm (by simpa using hz) hcell hwz
  clear hA0
  refine (walk W a0 cap0 x0 r0 m0 w0 (Lib.hid (pow_of _ (by kernel_rfl) hL)) (Lib.hid (errs_of _ (by kernel_rfl) (by kernel_rfl) hL))).mono fun e W' ⟨he, bel⟩ => ?_
  subst he
  exact ⟨_, rfl, _, _, _, [], _, [], hW', trodAll_mk1 (shut_bool Tryd.underlying4 _), (trodAll_cons_mk (Below.trod laidOut (by kernel_rfl) (of_decide_eq_true (by kernel_rfl)) k0 bel lt0) trodAll_mk0), rfl, bel.frame _, fun h => by cases h⟩

theorem laid_met (os : Os) : laidMet Tryd.prog Rows.fnTextureRow.laid ((laidWorldE os).forCall (fun _ _ => 0) ⟨#[], #[.slice none 0 0], []⟩).memory :=
  laidMet_of_run' 8 (by kernel_rfl) (by kernel_rfl)
theorem reads (os : Os) {H : Type} (enc : TypeId × Value → H) : ∃ d places, DataW.whole enc Tryd.prog ((laidWorldE os).forCall (fun _ _ => 0) ⟨#[], #[.slice none 0 0], []⟩).memory Tryd.f3.params.toList Rows.fnTextureSpec.vars false (#[.slice none 0 0] : Array Value).toList 8 = some (d, [], places) :=
  ⟨[.nil], [], by kernel_rfl⟩
set_option maxRecDepth 100000 in
theorem lifted (os : Os) (started : os.Started) (H : Type) (enc : TypeId × Value → H) (F : Stop.Interp) :
    ReturnsInHanded {} Tryd.checked os 3 .any ((OpenSpec.ofChange Rows.fnTextureSpec).preRow enc Tryd.prog Tryd.f3 Rows.fnTextureRow.domain false Rows.fnTextureRow.laid) (((OpenSpec.ofChange Rows.fnTextureSpec).at F).post enc Tryd.prog Tryd.f3 false true false false) := by
  obtain ⟨d, places, hx⟩ := reads os enc
  refine returnsInHanded_of_row (C := Tryd.checked) (s := OpenSpec.ofChange Rows.fnTextureSpec) own started (by kernel_rfl) Tryd.func3
    (witness_row_atRef (enc := enc) (C := Tryd.checked) false (laidWorldE os) #[.slice none 0 0] rfl (by kernel_rfl) (by kernel_rfl) (by kernel_rfl)
      (OpenSpec.preRow_of_cond 8 hx (by kernel_rfl) (fun k hk => by cases hk) (by kernel_rfl) (laid_met os))) ?_
  intro W base args ds gs before hval hW _ _ _ hL _ _
  exact contract H enc W base args ds gs before hval hW hL
theorem said : Rows.FnTextureSaid :=
  OpenClaim.holds_of_cond 3 Tryd.f3 rfl rfl rfl rfl rfl rfl rfl ⟨rfl, rfl, rfl, rfl, rfl⟩ rfl rfl rfl rfl rfl (by kernel_rfl) Tryd.func3 (by kernel_rfl)
    (of_decide_eq_true (by kernel_rfl)) (by unfold Func.isWrapper; first | (rw [if_pos (by decide +kernel)]; kernel_rfl) | (rw [if_neg (by decide +kernel)]; exact ⟨rfl, rfl⟩))
    (fun os started H enc _ F => by rw [OpenClaim.pre_eq_preRow]; exact lifted os started H enc F)
theorem plain (f : FuncId) (fn : Func) (hf : Tryd.pinned.checked.prog.funcNamed "loop.example/g00809/laws.FnTexture" = some f) (hfn : Tryd.pinned.checked.prog.funcs[f]? = some fn) :
    true = Tryd.pinned.checked.prog.looks [] ∧ ∀ (j : Nat) t, fn.params[j]? = some t → Tryd.pinned.checked.prog.wantsStandIn t = false := by
  obtain rfl : f = 3 := Option.some.inj ((show Tryd.prog.funcNamed "loop.example/g00809/laws.FnTexture" = some 3 by kernel_rfl).symm.trans hf) |>.symm
  obtain rfl : fn = Tryd.f3 := (Option.some.inj (Tryd.func3.symm.trans hfn)).symm
  refine ⟨by kernel_rfl, fun j t ht => ?_⟩
  rw [Tryd.params3] at ht
  have hm := Array.mem_of_getElem? ht
  simp only [List.mem_toArray, List.mem_cons, List.not_mem_nil, or_false] at hm
  rcases hm with rfl
  · exact (show Tryd.prog.wantsStandIn 22 = false by kernel_rfl)
theorem proved : Rows.FnTextureCardSaid :=
  Claim7.holds_tied_plain_at .later [] _ _ _ _ said (fun _ h => by cases h) (by kernel_rfl) (fun _ h => by cases h) fnTexture_row_tie rfl ⟨rfl, rfl⟩ (by kernel_rfl) rfl plain (by kernel_rfl)
#print axioms proved
end Go.Proofs.YtjbpfgaakkkaaaaDoor.fnTexture
