/- The cache of the program, first part. -/
import Derived.Test.YtaelhbbfddcabaaProg
import Derived.Test.YtaelhbbfddcabaaInts
import Derived.Test.YtaelhbbfddcabaaVbox
import Derived.Test.YtaelhbbfddcabaaHeld
import Derived.Test.YtaelhbbfddcabaaMem
import Derived.Test.YtaelhbbfddcabaaFlat
import Derived.Test.YtaelhbbfddcabaaRowC
import Derived.Test.YtaelhbbfddcabaaKS
import Derived.Test.YtaelhbbfddcabaaStrS
import Derived.Test.YtaelhbbfddcabaaIntS
import Derived.Test.YtaelhbbfddcabaaSS
import Derived.Test.YtaelhbbfddcabaaVi
import Derived.Test.YtaelhbbfddcabaaVa
import Derived.Test.YtaelhbbfddcabaaVb
import Derived.Test.YtaelhbbfddcabaaVc
import Derived.Test.YtaelhbbfddcabaaVd
import Derived.Test.YtaelhbbfddcabaaVe
import Derived.Test.YtaelhbbfddcabaaVf
import Derived.Test.YtaelhbbfddcabaaVg
import Derived.Test.YtaelhbbfddcabaaVm
import Derived.Test.YtaelhbbfddcabaaVn
import Derived.Test.YtaelhbbfddcabaaVo
import Derived.Test.YtaelhbbfddcabaaVp
import Derived.Test.YtaelhbbfddcabaaVq
import Derived.Test.YtaelhbbfddcabaaWa
import Derived.Test.YtaelhbbfddcabaaWb
import Derived.Test.YtaelhbbfddcabaaWc
import Derived.Test.YtaelhbbfddcabaaWd
import Derived.Test.YtaelhbbfddcabaaWe
import Derived.Test.YtaelhbbfddcabaaWm
import Derived.Test.YtaelhbbfddcabaaWh
import Derived.WalkKit
import Derived.WalkSpells
import Derived.WalkLawsBesides
import Derived.Lib.Hide
import Derived.Deep.RegionHeld3
import Derived.Deep.QuietTactic
import Derived.BigQuiet
import Derived.Handy
import Derived.Deep.DeepCutAuto
import Derived.OwnWalk
import Derived.Lib.OwnBridge
import Derived.Maps.OwnSet
import Derived.Maps.AppendAt
namespace Go.Proofs.Ytaelhbbfddcabaa
open Go.RowKit

theorem tmF_here {ts : List V3} {k : Nat} (h : k < ts.length) : tmF ts (k + 1) ts[k] = some (k : Int) := by
  unfold tmF
  rw [if_pos (by simp [List.getD, h])]
theorem tmF_there {ts : List V3} {k : Nat} (h : k < ts.length) (e : V3) (he : e ≠ ts[k]) : tmF ts (k + 1) e = tmF ts k e := by
  rw [tmF, if_neg (by simpa [List.getD, h] using he)]
theorem tmN_next {ts : List V3} {k : Nat} (h : k < ts.length) : (if (tmF ts k ts[k]).isSome = true then tmN ts k else tmN ts k + 1) = tmN ts (k + 1) := by
  rw [tmN, show ts.getD k (0, 0, 0) = ts[k] by simp [List.getD, h]]
set_option maxRecDepth 100000 in
set_option maxHeartbeats 4000000 in
theorem timesOf_any (A : Option Addr) (c : Nat) (ts : List V3) (w : World) (hR : RowC 3 vg w w.heap.size A ts) (hw : ∀ e ∈ ts, wf3 e) (hl : ts.length ≤ 1048577) :
    Calls Try.prog 56 #[.slice A ts.length c] w fun e w' => ∃ b : Nat, e = .returned (.map (some b)) ∧ w.heap.size ≤ b ∧ TmAt w' b ts.length (tmF ts ts.length) (tmN ts ts.length) ∧ Below w.heap.size w w' := by
  have HR := Lib.hid hR
  have HW3 := Lib.hid hw
  have HT0 := Lib.hid (TmAt.made w)
  have HB0 : Hid (Below w.heap.size w (w.alloc (.map #[] 0))) := Lib.hid ((Below.refl _ w).alloc (Nat.le_refl _) _)
  have hmm := @run_makeMap Try.prog
  clear hR hw
  go_enter Try.func56, Try.ntmps56
  go_wp2_with fail
  go_loopw [9] (fun i wr => ∃ k : Nat, k ≤ ts.length ∧ i = .int .i64 k ∧ TmAt wr w.heap.size k (tmF ts k) (tmN ts k) ∧ Below w.heap.size w wr) (fun i _ => ts.length - (intOf i).toNat)
  case atStart => exact ⟨0, Nat.zero_le _, rfl, HT0.out, HB0.out⟩
  case round =>
    clear HT0 HB0 hmm
    obtain ⟨k, hk, rfl, hT, hb⟩ := hrel
    by_cases hlt : k < ts.length
    · obtain ⟨b, o, rfl, hbl, hc⟩ := HR.out.at hlt
      obtain ⟨c0, c1, c2⟩ := vg_at hc
      have c0 := (hb.cell (p := ⟨b, o + k * 3, none⟩) hbl).trans c0
      have c1 := (hb.cell (p := ⟨b, o + k * 3 + 1, none⟩) hbl).trans c1
      have c2 := (hb.cell (p := ⟨b, o + k * 3 + 2, none⟩) hbl).trans c2
      have hwf := HW3.out ts[k] (List.getElem_mem hlt)
      have hme := tmF_here hlt
      have hot := tmF_there hlt
      have hnx := tmN_next hlt
      obtain ⟨v, hv⟩ : ∃ v, v = ts[k] := ⟨_, rfl⟩
      rw [← hv] at c0 c1 c2 hwf hme hot hnx
      clear hv hc
      obtain ⟨v0, v1, v2⟩ := v
      have hb1 := hb.alloc hb.size (.cells #[.int .i64 v0, .int .i64 v1, .int .i64 v2] 50)
      have MB := Mbox.new wr #[.int .i64 v0, .int .i64 v1, .int .i64 v2] 50
      obtain ⟨w4, hrun, hT4, hg4, hs4⟩ := (hT.alloc (.cells #[.int .i64 v0, .int .i64 v1, .int .i64 v2] 50)).put (by unfold maxLen; omega) (v0, v1, v2) hwf (k : Int) (tmF ts (k + 1)) hme (fun e he => hot e he)
      rw [hnx] at hT4
      obtain ⟨W1, hW1⟩ : ∃ W1, W1 = wr.alloc (.cells #[.int .i64 v0, .int .i64 v1, .int .i64 v2] 50) := ⟨_, rfl⟩
      rw [← hW1] at MB hb1 hrun hg4
      have m0 := MB.c 0
      have m1 := MB.c 1
      have m2 := MB.c 2
      have HN := Lib.hid (And.intro hT4 (hb1.grown hg4 hb1.size (fun q e => by injection e with e; omega)))
      have hlt' : (k : Int) < (ts.length : Int) := by omega
      have hge' : (0 : Int) ≤ (k : Int) := by omega
      dsimp only at c0 c1 c2
      clear hT hb hwf hme hot hnx hb1 MB hT4 hg4 hs4
      go_upto_region 5 with fail
      rw [← hW1]
      clear hW1 c0 c1 c2
      go_wp2_with fail
      go_roundw
      case rel => exact ⟨k + 1, by omega, by go_num, HN.out⟩
      case measure => simp [intOf]; omega
    · obtain rfl : k = ts.length := by omega
      have HN := Lib.hid (And.intro hT hb)
      clear hT hb
      go_wp2_with fail
      go_ret
      exact ⟨_, rfl, Nat.le_refl _, HN.out⟩

set_option maxHeartbeats 4000000 in
theorem newC_any (n : Int) (w : World) :
    Calls Try.prog 18 #[.int .i64 n] w (CaOut (clampP n 1 12) [] 0 w) := by
  have HT : Held w (w.alloc (.cells #[.int .i64 0, .slice none 0 0, .int .i64 0] 29)) [(w.heap.size, [.int .i64 0, .slice none 0 0, .int .i64 0])] := by
    have h := (Held.nil w).new #[.int .i64 0, .slice none 0 0, .int .i64 0] 29
    simpa only [World.size_alloc] using h
  obtain ⟨W1, hW1⟩ : ∃ W, W = w.alloc (.cells #[.int .i64 0, .slice none 0 0, .int .i64 0] 29) := ⟨_, rfl⟩
  rw [← hW1] at HT
  go_enter Try.func18, Try.ntmps18
  go_upto_region 1 with fail
  rw [← hW1]
  clear hW1
  have r0 := (HT.box 0).c 0
  have r1 := (HT.box 0).c 1
  have r2 := (HT.box 0).c 2
  have o0 := (HT.box 0).f 0
  have o1 := (HT.box 0).f 1
  have o2 := (HT.box 0).f 2
  have HB := Lib.hid HT.below
  clear HT
  go_wp2_with fail
  refine (clamp_any n 1 12 _).mono ?_
  rintro e w2 ⟨rfl, rfl⟩
  obtain ⟨q, hq⟩ : ∃ q, q = clampP n 1 12 := ⟨_, rfl⟩
  rw [← hq]
  have HQ := Lib.hid hq
  clear hq
  go_wp2_with fail
  exact bodyPost_ret (v := cav q none 0 0 0) (by simp [results, Try.results18, go_sem, r0, r1, r2]) rfl ⟨none, 0, by rw [← HQ.out]; rfl, World.ownsRow_nil _ _ _ _, ((HB.out.setCell (p := ⟨w.heap.size, 0, none⟩) (Nat.le_refl _) _).setCell (p := ⟨w.heap.size, 1, none⟩) (Nat.le_refl _) _).setCell (p := ⟨w.heap.size, 2, none⟩) (Nat.le_refl _) _⟩
set_option maxRecDepth 100000 in
set_option maxHeartbeats 4000000 in
theorem indexT_any (A : Option Addr) (c : Nat) (ts : List V3) (x y z : Int) (w : World) (hR : RowC 3 vg w w.heap.size A ts) (hl : ts.length ≤ 1099511627776) :
    Calls Try.prog 89 #[.slice A ts.length c, tlv x y z] w fun e w' => e = .returned (.int .i64 (fndT ts (x, y, z))) ∧ Below w.heap.size w w' := by
  have HT : Held w (w.alloc (.cells #[.int .i64 x, .int .i64 y, .int .i64 z] 50)) [(w.heap.size, [.int .i64 x, .int .i64 y, .int .i64 z])] := by
    have h := (Held.nil w).new #[.int .i64 x, .int .i64 y, .int .i64 z] 50
    simpa only [World.size_alloc] using h
  obtain ⟨W1, hW1⟩ : ∃ W, W = w.alloc (.cells #[.int .i64 x, .int .i64 y, .int .i64 z] 50) := ⟨_, rfl⟩
  rw [← hW1] at HT
  have HR := Lib.hid hR
  clear hR
  go_enter Try.func89, Try.ntmps89
  go_upto_region 1 with fail
  rw [← hW1]
  obtain ⟨k0, hk0⟩ : ∃ k, k = w.heap.size := ⟨_, rfl⟩
  rw [← hk0] at HT ⊢
  have HI := Lib.hid HT
  clear hW1 hk0 HT
  go_wp2_with fail
  go_loopw [8] (fun iv wr => ∃ k : Nat, k ≤ ts.length ∧ iv = .int .i64 k ∧ Held w wr [(k0, [.int .i64 x, .int .i64 y, .int .i64 z])] ∧ ∀ j (h : j < ts.length), j < k → ts[j] ≠ (x, y, z)) (fun iv _ => ts.length - (intOf iv).toNat)
  case atStart => exact ⟨0, Nat.zero_le _, rfl, HI.out, fun j _ h => by omega⟩
  case round =>
    clear HI
    obtain ⟨k, hk, rfl, HT, hno⟩ := hrel
    have HNO := Lib.hid hno
    clear hno
    by_cases hlt : k < ts.length
    · obtain ⟨b, o, rfl, hbl, hc⟩ := HR.out.at hlt
      obtain ⟨c0, c1, c2⟩ := vg_at hc
      have c0 := (HT.below.cell (p := ⟨b, o + k * 3, none⟩) hbl).trans c0
      have c1 := (HT.below.cell (p := ⟨b, o + k * 3 + 1, none⟩) hbl).trans c1
      have c2 := (HT.below.cell (p := ⟨b, o + k * 3 + 2, none⟩) hbl).trans c2
      obtain ⟨v, hv⟩ : ∃ v, v = ts[k] := ⟨_, rfl⟩
      rw [← hv] at c0 c1 c2
      obtain ⟨v0, v1, v2⟩ := v
      dsimp only at c0 c1 c2
      have hlt' : (k : Int) < (ts.length : Int) := by omega
      have hge' : (0 : Int) ≤ (k : Int) := by omega
      have e1 := teq_in x y z v0 v1 v2
      have e2 := teq_run x y z v0 v1 v2
      obtain ⟨q, hq⟩ : ∃ q, q = teqB x y z v0 v1 v2 := ⟨_, rfl⟩
      rw [← hq] at e1 e2
      have HV := Lib.hid (And.intro hv hq)
      have m0 := (HT.box 0).c 0
      have m1 := (HT.box 0).c 1
      have m2 := (HT.box 0).c 2
      have HTT := Lib.hid HT
      clear hc hv hq HT
      go_upto_region 4 with fail
      go_quiet (fail)
      clear c0 c1 c2 m0 m1 m2
      cases q with
      | true =>
        have HF : Hid (fndT ts (x, y, z) = (k : Int)) := Lib.hid (fndT_at hlt (by have h1 := teq_iff.1 HV.out.2.symm; rw [← HV.out.1, h1]) HNO.out)
        go_wp2_with fail
        go_ret
        exact ⟨by rw [HF.out]; rfl, (HTT.out.drewN _).below⟩
      | false =>
        have HN2 : Hid (∀ j (h : j < ts.length), j < k + 1 → ts[j] ≠ (x, y, z)) := Lib.hid (fun j h hj e => by
          by_cases e1 : j = k
          · subst e1
            rw [← HV.out.1] at e
            have := HV.out.2
            rw [teq_iff.2 e.symm] at this
            cases this
          · exact HNO.out j h (by omega) e)
        go_wp2_with fail
        go_roundw
        case rel => exact ⟨k + 1, by omega, by go_num, HTT.out.drewN _, HN2.out⟩
        case measure => simp [intOf]; omega
    · have HF : Hid (fndT ts (x, y, z) = -1) := Lib.hid (fndT_none fun j hj => HNO.out j hj (by omega))
      have HB := Lib.hid HT.below
      clear HT
      go_wp2_with fail
      go_ret
      exact ⟨by rw [HF.out]; rfl, HB.out⟩

set_option maxHeartbeats 4000000 in
theorem containsT_any (A : Option Addr) (c : Nat) (ts : List V3) (x y z : Int) (w : World) (hR : RowC 3 vg w w.heap.size A ts) (hl : ts.length ≤ 1099511627776) :
    Calls Try.prog 72 #[.slice A ts.length c, tlv x y z] w fun e w' => e = .returned (.bool (decide ((x, y, z) ∈ ts))) ∧ Below w.heap.size w w' := by
  have HT : Held w (w.alloc (.cells #[.int .i64 x, .int .i64 y, .int .i64 z] 50)) [(w.heap.size, [.int .i64 x, .int .i64 y, .int .i64 z])] := by
    have h := (Held.nil w).new #[.int .i64 x, .int .i64 y, .int .i64 z] 50
    simpa only [World.size_alloc] using h
  obtain ⟨W1, hW1⟩ : ∃ W, W = w.alloc (.cells #[.int .i64 x, .int .i64 y, .int .i64 z] 50) := ⟨_, rfl⟩
  rw [← hW1] at HT
  have HIX := Lib.hid (indexT_any A c ts x y z W1 (hR.later HT.below) hl)
  obtain ⟨q, hq⟩ : ∃ q, q = fndT ts (x, y, z) := ⟨_, rfl⟩
  rw [← hq] at HIX
  have hqd : decide ((x, y, z) ∈ ts) = decide (0 ≤ q) := by
    rw [decide_eq_decide, hq]
    have := fndT_neg (ts := ts) (x := (x, y, z))
    by_cases h : (x, y, z) ∈ ts
    · simp only [h, not_true, iff_false] at this
      exact ⟨fun _ => by omega, fun _ => h⟩
    · simp only [h, not_false_eq_true, iff_true] at this
      exact ⟨fun c => absurd c h, fun c => by omega⟩
  rw [hqd]
  have m0 := (HT.box 0).c 0
  have m1 := (HT.box 0).c 1
  have m2 := (HT.box 0).c 2
  have HB := Lib.hid HT.below
  clear hR HT hq hqd
  go_enter Try.func72, Try.ntmps72
  go_upto_region 1 with fail
  rw [← hW1]
  clear hW1
  go_wp2_with fail
  refine HIX.out.mono ?_
  rintro e w2 ⟨rfl, hb2⟩
  have HB2 := Lib.hid (HB.out.trans (hb2.mono HB.out.size))
  clear hb2 m0 m1 m2
  go_wp2_with fail
  go_ret
  exact ⟨rfl, HB2.out⟩

theorem below_drewNT {B : Nat} {a w : World} (h : Below B a w) (n : Nat) : Below B a (w.drewN n) := ⟨h.os, h.tape, h.output, h.size, h.block⟩
set_option maxRecDepth 100000 in
set_option maxHeartbeats 8000000 in
theorem equalT_any (A A' : Option Addr) (c c' : Nat) (xs ys : List V3) (w : World) (hR : RowC 3 vg w w.heap.size A xs) (hR' : RowC 3 vg w w.heap.size A' ys) (hl' : ys.length ≤ 1048577) :
    Calls Try.prog 76 #[.slice A xs.length c, .slice A' ys.length c'] w fun e w' => e = .returned (.bool (decide (xs = ys))) ∧ Below w.heap.size w w' := by
  have HRA := Lib.hid hR
  have HRB := Lib.hid hR'
  obtain ⟨lx, hlx⟩ : ∃ n, n = xs.length := ⟨_, rfl⟩
  obtain ⟨ly, hly⟩ : ∃ n, n = ys.length := ⟨_, rfl⟩
  rw [← hlx, ← hly]
  by_cases hll : lx = ly
  · have d3 : ((lx : Int) != (ly : Int)) = false := by rw [hll]; simp
    have hlb : lx ≤ 1048577 := by omega
    have HEQ := Lib.hid (And.intro hlx (And.intro hly hll))
    clear hR hR' hlx hly hll hl'
    go_enter Try.func76, Try.ntmps76
    go_wp2_with fail
    go_loopw [13] (fun iv wr => ∃ k : Nat, k ≤ lx ∧ iv = .int .i64 k ∧ Below w.heap.size w wr ∧ ∀ j (h : j < xs.length) (h' : j < ys.length), j < k → xs[j] = ys[j]) (fun iv _ => lx - (intOf iv).toNat)
    case atStart => exact ⟨0, Nat.zero_le _, rfl, Below.refl _ _, fun j _ _ h => by omega⟩
    case round =>
      obtain ⟨k, hk, rfl, hb, hno⟩ := hrel
      have HNO := Lib.hid hno
      clear hno
      by_cases hlt : k < lx
      · have hkx : k < xs.length := by have := HEQ.out; omega
        have hky : k < ys.length := by have := HEQ.out; omega
        obtain ⟨b, o, hA, hbl, hc⟩ := HRA.out.at hkx
        obtain ⟨b', o', hA', hbl', hc'⟩ := HRB.out.at hky
        subst hA hA'
        obtain ⟨c0, c1, c2⟩ := vg_at hc
        obtain ⟨e0, e1, e2⟩ := vg_at hc'
        obtain ⟨v, hv⟩ : ∃ v, v = xs[k] := ⟨_, rfl⟩
        obtain ⟨u, hu⟩ : ∃ v, v = ys[k] := ⟨_, rfl⟩
        rw [← hv] at c0 c1 c2
        rw [← hu] at e0 e1 e2
        obtain ⟨v0, v1, v2⟩ := v
        obtain ⟨z0, z1, z2⟩ := u
        dsimp only at c0 c1 c2 e0 e1 e2
        have c0 := (hb.cell (p := ⟨b, o + k * 3, none⟩) hbl).trans c0
        have c1 := (hb.cell (p := ⟨b, o + k * 3 + 1, none⟩) hbl).trans c1
        have c2 := (hb.cell (p := ⟨b, o + k * 3 + 2, none⟩) hbl).trans c2
        have e0 := (hb.cell (p := ⟨b', o' + k * 3, none⟩) hbl').trans e0
        have e1 := (hb.cell (p := ⟨b', o' + k * 3 + 1, none⟩) hbl').trans e1
        have e2 := (hb.cell (p := ⟨b', o' + k * 3 + 2, none⟩) hbl').trans e2
        have hlt' : (k : Int) < (lx : Int) := by omega
        have hlu' : (k : Int) < (ly : Int) := by have := HEQ.out; omega
        have hge' : (0 : Int) ≤ (k : Int) := by omega
        have r1 := teq_in v0 v1 v2 z0 z1 z2
        have r2 := tne_run v0 v1 v2 z0 z1 z2
        obtain ⟨q, hq⟩ : ∃ q, q = teqB v0 v1 v2 z0 z1 z2 := ⟨_, rfl⟩
        rw [← hq] at r1
        simp only [← hq] at r2
        have HV := Lib.hid (And.intro hv (And.intro hu hq))
        have HB := Lib.hid hb
        clear hc hc' hv hu hq hb
        go_upto_region 6 with fail
        go_quiet (fail)
        clear c0 c1 c2 e0 e1 e2
        cases q with
        | true =>
          have HN2 : Hid (∀ j (h : j < xs.length) (h' : j < ys.length), j < k + 1 → xs[j] = ys[j]) := Lib.hid (fun j h h' hj => by
            by_cases e1 : j = k
            · subst e1
              rw [← HV.out.1, ← HV.out.2.1]
              exact teq_iff.1 HV.out.2.2.symm
            · exact HNO.out j h h' (by omega))
          go_wp2_with fail
          go_roundw
          case rel => exact ⟨k + 1, by omega, by go_num, below_drewNT HB.out _, HN2.out⟩
          case measure => simp [intOf]; omega
        | false =>
          have HF : Hid (decide (xs = ys) = false) := Lib.hid (decide_eq_false fun e => by
            subst e
            have h1 := HV.out.2.2
            have h2 : ((v0, v1, v2) : V3) = (z0, z1, z2) := HV.out.1.trans HV.out.2.1.symm
            rw [teq_iff.2 h2] at h1
            cases h1)
          go_wp2_with fail
          go_ret
          exact ⟨by rw [HF.out]; rfl, below_drewNT HB.out _⟩
      · have HF : Hid (decide (xs = ys) = true) := Lib.hid (decide_eq_true (List.ext_getElem (by have := HEQ.out; omega) fun j h1 h2 => HNO.out j h1 h2 (by have := HEQ.out; omega)))
        have HB := Lib.hid hb
        clear hb
        go_wp2_with fail
        go_ret
        exact ⟨by rw [HF.out]; rfl, HB.out⟩
  · have d3 : ((lx : Int) != (ly : Int)) = true := by simp; omega
    have HF : Hid (decide (xs = ys) = false) := Lib.hid (decide_eq_false fun e => hll (by rw [hlx, hly, e]))
    clear hR hR' hlx hly hll hl'
    go_enter Try.func76, Try.ntmps76
    go_wp2_with fail
    go_ret
    exact ⟨by rw [HF.out]; rfl, Below.refl _ _⟩


set_option maxHeartbeats 8000000 in
theorem sameC_any (R : Int) (A : Option Addr) (c : Nat) (xs : List V3) (Q : Int) (R' : Int) (A' : Option Addr) (c' : Nat) (ys : List V3) (Q' : Int) (w : World) (hR : RowC 3 vg w w.heap.size A xs) (hR' : RowC 3 vg w w.heap.size A' ys) (_ : xs.length ≤ 1048577) (hl' : ys.length ≤ 1048577) :
    Calls Try.prog 42 #[cav R A xs.length c Q, cav R' A' ys.length c' Q'] w fun e w' => e = .returned (.bool (sameCP R xs Q R' ys Q')) ∧ Below w.heap.size w w' := by
  have HT : Held w ((w.alloc (.cells #[.int .i64 R, .slice A xs.length c, .int .i64 Q] 29)).alloc (.cells #[.int .i64 R', .slice A' ys.length c', .int .i64 Q'] 29)) [(w.heap.size + 1, [.int .i64 R', .slice A' ys.length c', .int .i64 Q']), (w.heap.size, [.int .i64 R, .slice A xs.length c, .int .i64 Q])] := by
    have h := ((Held.nil w).new #[.int .i64 R, .slice A xs.length c, .int .i64 Q] 29).new #[.int .i64 R', .slice A' ys.length c', .int .i64 Q'] 29
    simpa only [World.size_alloc] using h
  obtain ⟨W1, hW1⟩ : ∃ W, W = (w.alloc (.cells #[.int .i64 R, .slice A xs.length c, .int .i64 Q] 29)).alloc (.cells #[.int .i64 R', .slice A' ys.length c', .int .i64 Q'] 29) := ⟨_, rfl⟩
  rw [← hW1] at HT
  have HEQ := Lib.hid (equalT_any A A' c c' xs ys W1 (hR.later HT.below) (hR'.later HT.below) hl')
  have HB := Lib.hid HT.below
  have m0 := (HT.box 1).c 0
  have m1 := (HT.box 1).c 1
  have m2 := (HT.box 1).c 2
  have n0 := (HT.box 0).c 0
  have n1 := (HT.box 0).c 1
  have n2 := (HT.box 0).c 2
  clear hR hR' HT hl'
  by_cases hr : R = R'
  · by_cases hq : Q = Q'
    · have d1 : (R == R') = true := by rw [hr]; simp
      have d2 : (Q == Q') = true := by rw [hq]; simp
      have HP : Hid (sameCP R xs Q R' ys Q' = decide (xs = ys)) := Lib.hid (by unfold sameCP; simp [hr, hq])
      clear hr hq
      go_enter Try.func42, Try.ntmps42
      go_upto_region 1 with fail
      rw [← hW1]
      clear hW1
      go_wp2_with fail
      refine HEQ.out.mono ?_
      rintro e w2 ⟨rfl, hb2⟩
      have HB2 := Lib.hid (HB.out.trans (hb2.mono HB.out.size))
      clear hb2 m0 m1 m2 n0 n1 n2
      go_wp2_with fail
      go_ret
      exact ⟨by rw [HP.out]; rfl, HB2.out⟩
    · have d1 : (R == R') = true := by rw [hr]; simp
      have d2 : (Q == Q') = false := by simpa using hq
      have HP : Hid (sameCP R xs Q R' ys Q' = false) := Lib.hid (same_no fun h => hq h.2.1)
      clear hr hq
      go_enter Try.func42, Try.ntmps42
      go_upto_region 1 with fail
      rw [← hW1]
      clear hW1
      go_wp2_with fail
      go_ret
      exact ⟨by rw [HP.out]; rfl, HB.out⟩
  · have d1 : (R == R') = false := by simpa using hr
    have HP : Hid (sameCP R xs Q R' ys Q' = false) := Lib.hid (same_no fun h => hr h.1)
    clear hr
    go_enter Try.func42, Try.ntmps42
    go_upto_region 1 with fail
    rw [← hW1]
    clear hW1
    go_wp2_with fail
    go_ret
    exact ⟨by rw [HP.out]; rfl, HB.out⟩
set_option maxHeartbeats 4000000 in
theorem cloneTl_any (A : Option Addr) (c : Nat) (ts : List V3) (w : World) (hR : RowC 3 vg w w.heap.size A ts) (hl : ts.length ≤ 1048577) :
    Calls Try.prog 81 #[.slice A ts.length c] w (TilOut ts w) := by
  have q22 : ∀ (w : World) (a : Option Addr) (n c : Nat), (binOp .eql 27 (.slice a n c) (.slice none 0 0)).run Try.prog w = .ok (.bool a.isNone) w := fun w a n c => Lib.run_eql_slice_nil w _ _ a n c 0 0 Try.underlying27
  cases A with
  | none =>
    have hts : ts = [] := by
      rcases Nat.eq_zero_or_pos ts.length with h | h
      · exact List.eq_nil_of_length_eq_zero h
      · obtain ⟨b, o, e, _⟩ := hR h
        cases e
    subst hts
    clear hR
    go_enter Try.func81, Try.ntmps81
    go_wp2_with fail
    go_ret
    exact ⟨none, 0, rfl, World.ownsRow_nil _ _ _ _, Below.refl _ _⟩
  | some a =>
    have hba : Below w.heap.size w (w.alloc (.cells #[] 50)) := (Below.refl _ w).alloc (Nat.le_refl _) _
    have HRN := Lib.hid (hR.below hba)
    have HOE := Lib.hid (own_lit3 (Held.nil w))
    have HBA := Lib.hid hba
    clear hR hba
    go_enter Try.func81, Try.ntmps81
    go_wp2_with (at_builtin; refine wpList_appT rfl _ _ 27 rfl 50 Try.underlying27 (tlv 0 0 0) 24 infoTile rfl w.heap.size _ 0 [] (by rfl) HOE.out w.heap.size (some a) c ts.length ts rfl (by rfl) HRN.out (by unfold maxLen; omega) (by omega) (by simp) ?_)
    intro v' w' ho hg _
    obtain ⟨A2, c2, hS⟩ := own_shape ho
    subst hS
    have HF := Lib.hid (And.intro ho (HBA.out.grown hg HBA.out.size (fun q hq => by
      injection hq with hq
      simp only at hq
      omega)))
    clear ho hg
    go_wp2_with fail
    go_ret
    exact ⟨A2, c2, rfl, HF.out.1, HF.out.2⟩

set_option maxHeartbeats 4000000 in
theorem copied_any (R : Int) (A : Option Addr) (c : Nat) (ts : List V3) (K : Int) (w : World) (hR : RowC 3 vg w w.heap.size A ts) (hl : ts.length ≤ 1048577) :
    Calls Try.prog 49 #[cav R A ts.length c K] w (CaOut R ts K w) := by
  have HT : Held w ((w.alloc (.cells #[.int .i64 R, .slice A ts.length c, .int .i64 K] 29)).alloc (.cells #[.int .i64 0, .slice none 0 0, .int .i64 0] 29)) [(w.heap.size + 1, [.int .i64 0, .slice none 0 0, .int .i64 0]), (w.heap.size, [.int .i64 R, .slice A ts.length c, .int .i64 K])] := by
    have h := ((Held.nil w).new #[.int .i64 R, .slice A ts.length c, .int .i64 K] 29).new #[.int .i64 0, .slice none 0 0, .int .i64 0] 29
    simpa only [World.size_alloc] using h
  obtain ⟨W1, hW1⟩ : ∃ W, W = (w.alloc (.cells #[.int .i64 R, .slice A ts.length c, .int .i64 K] 29)).alloc (.cells #[.int .i64 0, .slice none 0 0, .int .i64 0] 29) := ⟨_, rfl⟩
  rw [← hW1] at HT
  have HCL := Lib.hid (cloneTl_any A c ts W1 (hR.later HT.below) hl)
  have hsz : W1.heap.size = w.heap.size + 2 := by rw [hW1]; simp
  clear hR hl
  go_enter Try.func49, Try.ntmps49
  go_upto_region 1 with fail
  rw [← hW1]
  obtain ⟨k1, hk1⟩ : ∃ k, k = w.heap.size + 1 := ⟨_, rfl⟩
  obtain ⟨k0, hk0⟩ : ∃ k, k = w.heap.size := ⟨_, rfl⟩
  rw [← hk1, ← hk0] at HT
  rw [← hk1, ← hk0]
  have HORD := Lib.hid (show w.heap.size ≤ k0 ∧ k0 < k1 ∧ k1 < W1.heap.size by omega)
  have m1 := (HT.box 1).c 1
  have HTH := Lib.hid HT
  clear hW1 hk1 hk0 hsz HT
  go_wp2_with fail
  refine HCL.out.mono ?_
  rintro e w2 ⟨A2, c2, rfl, ho, hb2⟩
  have HT := HTH.out.later hb2
  have h0 := HORD.out
  have HT2 := (HT.pick (cs := [(k0, [.int .i64 R, .slice A ts.length c, .int .i64 K]), (k1, [.int .i64 0, .slice none 0 0, .int .i64 0])]) (by simp)).put h0.1 (by simp; omega) 1 (.slice A2 ts.length c2)
  have ho2 := ownsRow_setCell_below ho (a := ⟨k0, 1, none⟩) (show k0 < W1.heap.size by omega) (.slice A2 ts.length c2)
  have n1 := (HT.box 1).c 1
  have g1 := (HT.box 1).f 1
  have HT2 : Held w (w2.setCell ⟨k0, 1, none⟩ (.slice A2 ts.length c2)) [(k0, [.int .i64 R, .slice A2 ts.length c2, .int .i64 K]), (k1, [.int .i64 0, .slice none 0 0, .int .i64 0])] := HT2
  obtain ⟨W3, hW3⟩ : ∃ W, W = w2.setCell ⟨k0, 1, none⟩ (.slice A2 ts.length c2) := ⟨_, rfl⟩
  rw [← hW3] at HT2 ho2
  clear hb2 m1 HT h0 ho
  go_upto_region 2 with fail
  rw [← hW3]
  clear hW3 n1 g1
  have m0 := (HT2.box 0).c 0
  have m1 := (HT2.box 0).c 1
  have m2 := (HT2.box 0).c 2
  have r0 := (HT2.box 1).c 0
  have r1 := (HT2.box 1).c 1
  have r2 := (HT2.box 1).c 2
  have o0 := (HT2.box 1).f 0
  have o1 := (HT2.box 1).f 1
  have o2 := (HT2.box 1).f 2
  have HF := Lib.hid (And.intro ho2 HT2.below)
  clear HT2 ho2
  go_wp2_with fail
  have hq1 : w.heap.size ≤ k1 := by have := HORD.out; omega
  have hlt1 : k1 < W1.heap.size := by have := HORD.out; omega
  have ho5 := ownsRow_setCell_below (ownsRow_setCell_below (ownsRow_setCell_below HF.out.1 (a := ⟨k1, 0, none⟩) hlt1 (.int .i64 R)) (a := ⟨k1, 1, none⟩) hlt1 (.slice A2 ts.length c2)) (a := ⟨k1, 2, none⟩) hlt1 (.int .i64 K)
  exact bodyPost_ret (v := cav R A2 ts.length c2 K) (by simp [results, Try.results49, go_sem, r0, r1, r2]) rfl ⟨A2, c2, rfl, own_base ho5 (by have := HORD.out; omega), ((HF.out.2.setCell (p := ⟨k1, 0, none⟩) hq1 _).setCell (p := ⟨k1, 1, none⟩) hq1 _).setCell (p := ⟨k1, 2, none⟩) hq1 _⟩

end Go.Proofs.Ytaelhbbfddcabaa
