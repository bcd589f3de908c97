/-
  Proved: the law FnCheck returns true for every input and its arguments read behind the call as they read before. Conditions: none of our own; those of the given row alone.
-/
import Derived.Test.YtlcnjiephbhdaaaRows
import Derived.WalkKit
import Derived.ProofKit
import Derived.OpenShut
import Derived.ShutString
import Derived.SliceStrings
import Derived.ChangeOld
import Derived.Below
import Derived.Test.YtlcnjiephbhdaaaC0
import Derived.Test.YtlcnjiephbhdaaaC1
import Derived.Test.YtlcnjiephbhdaaaC2
import Derived.Test.YtlcnjiephbhdaaaC3
import Derived.Test.YtlcnjiephbhdaaaC4
import Derived.Test.YtlcnjiephbhdaaaC5
import Derived.Test.YtlcnjiephbhdaaaC6
import Derived.Test.YtlcnjiephbhdaaaCA
import Derived.Test.YtlcnjiephbhdaaaYc
import Derived.Deep.RegionHeld3
import Derived.Deep.DeepCutAuto
import Derived.Handy
namespace Go.Proofs.Ytlcnjiephbhdaaa.fnCheck
open Go.ChangeShapes Go.WideShapes Go.ChangeAt Go.RowKit
open Go.ChangeMaps (open_string shut_string)
set_option linter.unusedVariables false

theorem own : ownKnob Try.prog.godebug = none := by kernel_rfl
theorem laidOut : laidOutB Try.prog = true := by kernel_rfl
theorem ok_of_chk {ns : List Nd} {ys : List As} (h : chkP ns ys = (0, 0)) : okPr ns ys := by
  unfold chkP at h
  split at h
  · assumption
  · cases h
theorem own_here {ns : List Nd} {ys : List As} (h : okPr ns ys) {i : Nat} (hi : i < ns.length) : ownP ns ys (i : Int) = ownV ns ys i := by
  unfold ownP
  rw [if_pos ⟨h, by omega, by omega⟩]
  rfl
theorem own_root {ns : List Nd} {ys : List As} (h : okPr ns ys) {k : Nat} (hk : k < ys.length) : ownP ns ys (ys[k]).2 = (k : Int) := by
  have hr := okPr_root h hk
  unfold ownP
  rw [if_pos ⟨h, hr.1, hr.2⟩]
  exact ownV_root h hk
set_option maxRecDepth 100000 in
set_option maxHeartbeats 16000000 in
theorem walk (w : World) (a0 : Option Addr) (c0 : Nat) (x0 : List Int) (r0 : Row (Value.int .u8) w w.heap.size a0 x0) (m0 : x0.length ≤ maxLen) (w0 : ∀ x ∈ x0, (Lit.int .u8 x).wf = true) :
    Calls Try.prog 3 #[.slice a0 x0.length c0] w fun e w' => e = .returned (.bool true) ∧ Below w.heap.size w w' := by
  have H8 : Hid (∀ x ∈ x0, 0 ≤ x ∧ x ≤ 255) := Lib.hid (fun x hx => bounds_u8 (w0 x hx))
  have HR : Hid (∀ W, Below w.heap.size w W → Row U8 W W.heap.size a0 x0) := Lib.hid (fun W h => r0.later h)
  clear w0 r0
  by_cases hbig : x0.length ≤ 1048576
  · go_enter Try.func3, Try.ntmps3
    go_wp2_with fail
    refine (makeProg_any _ _ x0 _ (HR.out _ (Below.refl _ _)) H8.out hbig).mono ?_
    rintro e w1 ⟨ns, ys, A, c, A', c', rfl, hRd, hok, hb1⟩
    have HT := ((Held.nil w).later hb1).new #[.slice A ns.length c, .slice A' ys.length c'] 26
    have RD := (hRd.alloc (Nat.le_refl _) (.cells #[.slice A ns.length c, .slice A' ys.length c'] 26)).more (B' := (w1.alloc (.cells #[.slice A ns.length c, .slice A' ys.length c'] 26)).heap.size) (by simp)
    have HOK := Lib.hid hok
    have HPR := Lib.hid (ok_of_chk hok.chk)
    have HL := Lib.hid (And.intro hok.len hok.len2)
    clear hbig hb1 hok hRd
    go_upto_region 4 with fail
    obtain ⟨W2, hW2⟩ : ∃ W, W = w1.alloc (.cells #[.slice A ns.length c, .slice A' ys.length c'] 26) := ⟨_, rfl⟩
    obtain ⟨k3, hk3⟩ : ∃ k, k = w1.heap.size := ⟨_, rfl⟩
    rw [← hW2] at HT RD ⊢
    rw [← hk3] at HT ⊢
    clear hW2 hk3
    have hz : ys.length + (argsL ns).length ≤ 1099511627776 := by have := argsL_three HOK.out.nm HOK.out.len; have := HL.out; omega
    have hl : ns.length ≤ 1048576 := by have := HL.out; omega
    have hx : ∀ x ∈ ns, x.2.1.size ≤ 1048576 ∧ x.2.2.2.length ≤ 1048576 := fun x h => by have := HOK.out.nm x h; omega
    have hy : ∀ y ∈ ys, y.1.size ≤ 1048576 := fun y h => by have := HOK.out.asn y h; omega
    have HCK : Hid (∀ W, Below W2.heap.size W2 W → Calls Try.prog 5 #[pgv A A' ns.length c ys.length c'] W fun e w' => e = .returned (.tuple #[.int .i64 0, .int .i64 0]) ∧ Below W.heap.size W w') := Lib.hid (fun W h => by
      have h1 := check_any A A' c c' ns ys W (RD.later h) hl HL.out.2 hz hx hy
      rw [HOK.out.chk] at h1
      exact h1)
    have HOW : Hid (∀ (i : Nat) W, i < ns.length → Below W2.heap.size W2 W → Calls Try.prog 6 #[pgv A A' ns.length c ys.length c', .int .i64 (i : Int)] W fun e w' => (∃ z : Int, 0 ≤ z ∧ z < ys.length ∧ e = .returned (.int .i64 z)) ∧ Below W.heap.size W w') := Lib.hid (fun i W hi h => (ownerOf_any A A' c c' ns ys i W (RD.later h) hl HL.out.2 hz hx hy).mono (fun e w' he => by
      have hb := ownV_bd HPR.out hi
      refine ⟨⟨_, hb.1, hb.2, ?_⟩, he.2⟩
      rw [he.1, own_here HPR.out hi]))
    have HRT : Hid (∀ (k : Nat) (hk : k < ys.length) W, Below W2.heap.size W2 W → Calls Try.prog 6 #[pgv A A' ns.length c ys.length c', .int .i64 (ys[k]).2] W fun e w' => e = .returned (.int .i64 (k : Int)) ∧ Below W.heap.size W w') := Lib.hid (fun k hk W h => (ownerOf_any A A' c c' ns ys (ys[k]).2 W (RD.later h) hl HL.out.2 hz hx hy).mono (fun e w' he => by
      refine ⟨?_, he.2⟩
      rw [he.1, own_root HPR.out hk]))
    have HUN : Hid (∀ (i : Nat) W, Below W2.heap.size W2 W → Calls Try.prog 7 #[pgv A A' ns.length c ys.length c', .int .i64 (i : Int)] W fun e w' => e = .returned (.bool (uniP ns ys i)) ∧ Below W.heap.size W w') := Lib.hid (fun i W h => isUni_any A A' c c' ns ys i W (RD.later h) hl HL.out.2 hz hx hy)
    have HCN : Hid (∀ W, Below W2.heap.size W2 W → Calls Try.prog 8 #[pgv A A' ns.length c ys.length c'] W fun e w' => e = .returned (.int .i64 ((cntU ns ys ns.length : Nat) : Int)) ∧ Below W.heap.size W w') := Lib.hid (fun W h => uniCount_any A A' c c' ns ys W (RD.later h) hl HL.out.2 hz hx hy)
    have HRA : Hid (∀ W, Below W2.heap.size W2 W → RowC 2 asg W W.heap.size A' ys) := Lib.hid (fun W h => (RD.later h).2)
    have HB := Lib.hid (Below.refl W2.heap.size W2)
    clear hz hl hx hy RD
    have c0 := (HT.box 0).c 0
    have c1 := (HT.box 0).c 1
    go_wp2_with fail
    refine (HCK.out _ HB.out).mono ?_
    rintro e w3 ⟨rfl, hb3⟩
    have HT := HT.later hb3
    have HB := Lib.hid (HB.out.trans (hb3.mono HB.out.size))
    clear hb3 c0 c1
    have c0 := (HT.box 0).c 0
    have c1 := (HT.box 0).c 1
    have HTH := Lib.hid HT
    clear HT
    go_wp2_with fail
    go_loopw [6, 24] (fun n i wr => ∃ k : Nat, k ≤ ns.length ∧ i = .int .i64 k ∧ n = .int .i64 ((cntU ns ys k : Nat) : Int) ∧ Held w wr [(k3, [.slice A ns.length c, .slice A' ys.length c'])] ∧ Below W2.heap.size W2 wr) (fun _ i _ => ns.length - (intOf i).toNat)
    case atStart => exact ⟨0, Nat.zero_le _, rfl, rfl, HTH.out, HB.out⟩
    case round =>
      clear c0 c1 HTH HB
      obtain ⟨k, hk, rfl, rfl, hT, hB⟩ := hrel
      have HT := Lib.hid hT
      have HB := Lib.hid hB
      have HCL := Lib.hid (cntU_le ns ys k)
      have hkb : k ≤ 60 := by have := HL.out; omega
      clear hB hT
      have c0 := (HT.out.box 0).c 0
      have c1 := (HT.out.box 0).c 1
      by_cases hlt : k < ns.length
      · have hlt' : (k : Int) < (ns.length : Int) := by omega
        go_wp2_with fail
        refine (HOW.out k _ hlt HB.out).mono ?_
        rintro e w4 ⟨⟨z, z0, z1, rfl⟩, hb4⟩
        have HT4 := Lib.hid (HT.out.later hb4)
        have HB4 := Lib.hid (HB.out.trans (hb4.mono HB.out.size))
        have hz0 : ¬ z < 0 := by omega
        have hz1 : ¬ (ys.length : Int) ≤ z := by omega
        clear z0 z1 hb4 c0 c1 HT HB
        have c0 := (HT4.out.box 0).c 0
        have c1 := (HT4.out.box 0).c 1
        go_wp2_with fail
        refine (HUN.out k _ HB4.out).mono ?_
        rintro e w5 ⟨rfl, hb5⟩
        have HT5 := Lib.hid (HT4.out.later hb5)
        have HB5 := Lib.hid (HB4.out.trans (hb5.mono HB4.out.size))
        clear hb5 c0 c1 HT4 HB4 hz0 hz1
        cases hu : uniP ns ys (k : Int) with
        | false =>
          go_wp2_with fail
          go_round
          case rel => exact ⟨k + 1, by omega, by go_num, by rw [cntU_step, hu]; rfl, HT5.out, HB5.out⟩
          case measure => simp [intOf]; omega
        | true =>
          have hcl := HCL.out
          have hst : ((cntU ns ys (k + 1) : Nat) : Int) = ((cntU ns ys k : Nat) : Int) + 1 := by rw [cntU_step, hu]; rfl
          have HST := Lib.hid hst
          obtain ⟨q, hq⟩ : ∃ q, q = cntU ns ys k := ⟨_, rfl⟩
          rw [← hq] at hcl HST ⊢
          have hqb : q ≤ 60 := by have := HL.out; omega
          clear hst hq hcl
          go_wp2_with fail
          go_round
          case rel => exact ⟨k + 1, by omega, by go_num, by rw [HST.out], HT5.out, HB5.out⟩
          case measure => simp [intOf]; omega
      · obtain rfl : k = ns.length := by omega
        clear hlt hk HCL
        obtain ⟨n, hn⟩ : ∃ n : Int, n = ((cntU ns ys ns.length : Nat) : Int) := ⟨_, rfl⟩
        rw [← hn] at HCN ⊢
        clear hn
        obtain ⟨i0, hi0⟩ : ∃ i : Int, i = (ns.length : Int) := ⟨_, rfl⟩
        go_wp2_with fail
        go_loopw [48] (fun i wr => ∃ k : Nat, k ≤ ys.length ∧ i = .int .i64 k ∧ Held w wr [(k3, [.slice A ns.length c, .slice A' ys.length c'])] ∧ Below W2.heap.size W2 wr) (fun i _ => ys.length - (intOf i).toNat)
        case atStart => exact ⟨0, Nat.zero_le _, rfl, HT.out, HB.out⟩
        case round =>
          clear c0 c1 HT HB
          obtain ⟨k, hk, rfl, hT, hB⟩ := hrel
          have HT := Lib.hid hT
          have HB := Lib.hid hB
          clear hB hT
          by_cases hlt : k < ys.length
          · have hlt' : (k : Int) < (ys.length : Int) := by omega
            have hge' : (0 : Int) ≤ (k : Int) := by omega
            have HOR := Lib.hid (fun W h => HRT.out k hlt W h)
            obtain ⟨b, o, hA', hbl, hc⟩ := (HRA.out _ HB.out).at hlt
            subst hA'
            obtain ⟨d0, d1⟩ := asg_at hc
            obtain ⟨v, hv⟩ : ∃ v, v = ys[k] := ⟨_, rfl⟩
            rw [← hv] at d0 d1 HOR
            obtain ⟨v0, v1⟩ := v
            have c0 := (HT.out.box 0).c 0
            have c1 := (HT.out.box 0).c 1
            clear hc hv hbl
            have hkb : k ≤ 1048576 := by have := HL.out; omega
            go_upto_region 18 with fail
            have M := Mbox.new wr #[.string v0, .int .i64 v1] 33
            have hb4 : Below wr.heap.size wr (wr.alloc (.cells #[.string v0, .int .i64 v1] 33)) := by go_grown
            have HT4 := HT.out.later hb4
            have HB4 := HB.out.trans (hb4.mono HB.out.size)
            obtain ⟨W4, hW4⟩ : ∃ W, W = wr.alloc (.cells #[.string v0, .int .i64 v1] 33) := ⟨_, rfl⟩
            obtain ⟨k4, hk4⟩ : ∃ k, k = wr.heap.size := ⟨_, rfl⟩
            rw [← hW4] at M HT4 HB4 ⊢
            rw [← hk4] at M ⊢
            have n0 := M.c 0
            have n1 := M.c 1
            have HT5 := Lib.hid HT4
            have HB5 := Lib.hid HB4
            clear hW4 hk4 M hb4 HT4 HB4 c0 c1 d0 d1
            have c0 := (HT5.out.box 0).c 0
            have c1 := (HT5.out.box 0).c 1
            go_wp2_with fail
            refine (HOR.out _ HB5.out).mono ?_
            rintro e w6 ⟨rfl, hb6⟩
            have HT6 := Lib.hid (HT5.out.later hb6)
            have HB6 := Lib.hid (HB5.out.trans (hb6.mono HB5.out.size))
            clear hb6 c0 c1 n0 n1 HOR
            go_wp2_with fail
            go_round
            case rel => exact ⟨k + 1, by omega, by go_num, HT6.out, HB6.out⟩
            case measure => simp [intOf]; omega
          · obtain rfl : k = ys.length := by omega
            clear hlt hk
            have c0 := (HT.out.box 0).c 0
            have c1 := (HT.out.box 0).c 1
            go_wp2_with fail
            refine (HCN.out _ HB.out).mono ?_
            rintro e w6 ⟨rfl, hb6⟩
            have HT6 := Lib.hid (HT.out.later hb6)
            clear hb6 c0 c1
            go_wp2_with fail
            refine (text_any 0 _).mono ?_
            rintro e w7 ⟨rfl, rfl⟩
            have HTX : Hid (txtC 0 = ⟨#[111, 107]⟩) := Lib.hid rfl
            rw [HTX.out]
            go_wp2_with fail
            go_ret
            exact ⟨rfl, HT6.out.below⟩
  · have hbig' : (1048576 : Int) < (x0.length : Int) := by omega
    go_enter Try.func3, Try.ntmps3
    go_wp2
    go_ret
    exact ⟨rfl, Below.refl _ _⟩

set_option maxRecDepth 100000 in
theorem lifted (os : Os) (started : os.Started) (H : Type) (enc : TypeId × Value → H) :
    ReturnsInHanded {} Try.checked os 3 .any (Rows.fnCheckSpec.pre6 enc Try.prog Try.f3 Rows.fnCheckRow.domain false) (Rows.fnCheckSpec.post enc Try.prog Try.f3 false true false false) := by
  refine returnsInHanded_of_change (C := Try.checked) own started (by kernel_rfl) Try.func3
    (ChangeSpec.witness6 (enc := enc) (C := Try.checked) false ⟨#[], #[.slice none 0 0], []⟩ 8 (by kernel_rfl) (by kernel_rfl) (by kernel_rfl) (by kernel_rfl)) ?_
  intro W base args ds gs before hval0 hW hcnd _
  have hval : ∀ (j : Nat) t v, Try.f3.params[j]? = some t → args[j]? = some v → Value.okWide Try.prog W .any base t v := hval0
  have hW' := hW
  obtain ⟨p, q, hA0, hV, rfl, hfz, hnd⟩ := hW
  have hA : DataW.TrodAll enc Try.prog W 0 (fun _ => true) true Try.f3.params.toList args.toList ds p := hA0
  rw [Try.params3] at hA hval
  obtain ⟨v0, vs0, d0, ds0, p0, q0, hargs, rfl, rfl, h0, r1000⟩ := trodAll_cons hA
  obtain ⟨rfl, rfl, rfl⟩ := trodAll_nil r1000
  obtain rfl : args = #[v0] := by cases args; simp_all
  obtain ⟨rfl, rfl⟩ := trodVars_none hV
  obtain ⟨a0, len0, cap0, rfl⟩ := okWide_slice Try.underlying22 (hval 0 22 v0 rfl rfl)
  have k0 := h0
  have lt0 : ∀ x ∈ p0, x.block < W.heap.size := by obtain ⟨m, hm⟩ := k0; exact DataW.trod_lt m _ _ _ hm
  obtain ⟨x0, rfl, r0, m0, w0⟩ : ∃ xs : List Int, len0 = xs.length ∧ Row (Value.int .u8) W W.heap.size a0 xs ∧ xs.length ≤ maxLen ∧ ∀ x ∈ xs, (Lit.int .u8 x).wf = true := by
    obtain ⟨fuel, hf⟩ := h0
    rcases open_ints Try.underlying22 Try.underlying5 (by kernel_rfl) hf with ⟨hcs, _⟩ | ⟨x, l, c, zs, hcs, _, hl, hm, hz, _, hcell, hwz⟩
    · simp [Value.cells] at hcs
      obtain ⟨rfl, rfl, rfl⟩ := hcs
      exact ⟨[], rfl, Row.nil, Nat.zero_le _, fun x hx => by cases hx⟩
    · simp [Value.cells] at hcs
      obtain ⟨rfl, rfl, rfl⟩ := hcs
      exact row_of_cells (d := (0 : Int)) hl hm (by simpa using hz) hcell hwz
  clear hA0
  refine (walk W a0 cap0 x0 r0 m0 w0).mono fun e W' ⟨he, bel⟩ => ?_
  subst he
  exact ⟨_, rfl, _, _, _, [], _, [], hW', trodAll_mk1 (shut_bool Try.underlying4 _), (trodAll_cons_mk (Below.trod laidOut (by kernel_rfl) (of_decide_eq_true (by kernel_rfl)) k0 bel lt0) trodAll_mk0), rfl, bel.frame _, fun h => by cases h⟩

theorem proved : Rows.FnCheckSaid :=
  OpenClaim.holds_of_wide 3 Try.f3 rfl rfl rfl rfl rfl rfl rfl ⟨rfl, rfl, rfl, rfl, rfl⟩ rfl rfl rfl rfl rfl (by kernel_rfl) Try.func3 (by kernel_rfl)
    (of_decide_eq_true (by kernel_rfl)) (by unfold Func.isWrapper; first | (rw [if_pos (by decide +kernel)]; kernel_rfl) | (rw [if_neg (by decide +kernel)]; exact ⟨rfl, rfl⟩))
    (fun os started H enc _ => lifted os started H enc)
#print axioms proved
end Go.Proofs.Ytlcnjiephbhdaaa.fnCheck
