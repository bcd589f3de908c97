/- Valid programs: the model. -/
import Derived.Test.YtpcdlehicdepaaaProg
import Derived.Test.YtpcdlehicdepaaaInts
import Derived.Test.YtpcdlehicdepaaaVbox
import Derived.Test.YtpcdlehicdepaaaHeld
import Derived.Test.YtpcdlehicdepaaaMem
import Derived.Test.YtpcdlehicdepaaaFlat
import Derived.Test.YtpcdlehicdepaaaRowC
import Derived.Test.YtpcdlehicdepaaaKS
import Derived.Test.YtpcdlehicdepaaaStrS
import Derived.Test.YtpcdlehicdepaaaIntS
import Derived.Test.YtpcdlehicdepaaaSS
import Derived.Test.YtpcdlehicdepaaaPg
import Derived.Test.YtpcdlehicdepaaaPh
import Derived.Test.YtpcdlehicdepaaaPi
import Derived.Test.YtpcdlehicdepaaaIdent
import Derived.Test.YtpcdlehicdepaaaPn
import Derived.Test.YtpcdlehicdepaaaQa
import Derived.Test.YtpcdlehicdepaaaQb
import Derived.WalkKit
import Derived.WalkSpells
import Derived.WalkLawsBesides
import Derived.Lib.Hide
import Derived.Deep.RegionHeld3
import Derived.Deep.QuietTactic
import Derived.BigQuiet
import Derived.Handy
import Derived.Deep.DeepCutAuto
import Derived.OwnWalk
namespace Go.Proofs.Ytpcdlehicdepaaa
open Go.RowKit

/-- how often each of the numbers below n stands in a list -/
def cntL (n : Nat) (l : List Int) : List Int := (List.range n).map fun (k : Nat) => ((l.count (k : Int) : Nat) : Int)
theorem cntL_len (n : Nat) (l : List Int) : (cntL n l).length = n := by simp [cntL]
theorem cntL_at (n : Nat) (l : List Int) (k : Nat) (h : k < (cntL n l).length) : (cntL n l)[k] = ((l.count (k : Int) : Nat) : Int) := by simp [cntL]
theorem cntL_nil (n : Nat) : cntL n [] = List.replicate n 0 := by
  refine List.ext_getElem (by simp [cntL_len]) fun k h1 h2 => ?_
  rw [cntL_at]
  simp
theorem cntL_step (n : Nat) (l : List Int) (m : Nat) : (cntL n l).set m (((l.count (m : Int) : Nat) : Int) + 1) = cntL n (l ++ [(m : Int)]) := by
  refine List.ext_getElem (by simp [cntL_len]) fun k h1 h2 => ?_
  rw [cntL_at, List.getElem_set, List.count_append]
  by_cases e : m = k
  · subst e
    simp
  · rw [if_neg e, cntL_at]
    have : List.count (k : Int) [(m : Int)] = 0 := List.count_eq_zero.2 (by simp; omega)
    rw [this]
    simp
def UsesOut (n : Nat) (l : List Int) (w : World) (e : Ending) (w' : World) : Prop :=
  ∃ (A : Option Addr), e = .returned (.slice A n n) ∧ Row I64 w' w'.heap.size A (cntL n l) ∧ Below w.heap.size w w'
theorem uses_perm (xs : List Nd) (ys : List As) (k : Int) : (argsL xs ++ rtsZ ys).count k = (refsP xs ys).count k := by
  unfold refsP
  rw [List.count_append, List.count_append, Nat.add_comm]
theorem rtsZ_len (ys : List As) : (rtsZ ys).length = ys.length := by simp [rtsZ]
theorem rtsZ_step (ys : List As) (k : Nat) (h : k < ys.length) : (rtsZ ys).take (k + 1) = (rtsZ ys).take k ++ [(ys[k]).2] := by
  rw [List.take_succ_eq_append_getElem (by rw [rtsZ_len]; exact h)]
  simp [rtsZ]
theorem args_takeM (xs : List Nd) (k : Nat) : (argsL (xs.take k)).length ≤ (argsL xs).length := by
  unfold argsL
  induction xs generalizing k with
  | nil => simp
  | cons x xs ih =>
    cases k with
    | zero => simp
    | succ k =>
      have := ih k
      simp only [List.take_succ_cons, List.flatMap_cons, List.length_append]
      omega

set_option maxRecDepth 100000 in
set_option maxHeartbeats 8000000 in
theorem sUses_any (A A' : Option Addr) (c c' : Nat) (xs : List Nd) (ys : List As) (w : World) (hR : ProgIn w w.heap.size A A' xs ys) (hl : xs.length ≤ 1048576) (hl2 : ys.length ≤ 1048576) (hz : (argsL xs).length ≤ 1099511627776) (hA : ∀ i (h : i < xs.length), argsIn i (xs[i]).2.2.2) (hY : ∀ j (h : j < ys.length), 0 ≤ (ys[j]).2 ∧ (ys[j]).2 < xs.length) :
    Calls Try.prog 53 #[pgv A A' xs.length c ys.length c'] w (UsesOut xs.length (argsL xs ++ rtsZ ys) w) := by
  obtain ⟨i0, hi, hz0, hz1, hz2⟩ := info_parts infoInt
  have HA := Lib.hid hA
  have HY := Lib.hid hY
  clear hA hY
  obtain ⟨W1, hW1⟩ : ∃ W, W = w.alloc (.cells #[.slice A xs.length c, .slice A' ys.length c'] 35) := ⟨_, rfl⟩
  have M := Mbox.new w #[.slice A xs.length c, .slice A' ys.length c'] 35
  have hB : Below w.heap.size w (w.alloc (.cells #[.slice A xs.length c, .slice A' ys.length c'] 35)) := by go_grown
  have hR1 := (hR.alloc (Nat.le_refl _) (.cells #[.slice A xs.length c, .slice A' ys.length c'] 35)).more (B' := (w.alloc (.cells #[.slice A xs.length c, .slice A' ys.length c'] 35)).heap.size) (by simp)
  rw [← hW1] at M hB hR1
  have HM := Lib.hid M
  have HB := Lib.hid hB
  have HR := Lib.hid hR1
  clear M hB hR hR1
  go_enter Try.func53, Try.ntmps53
  go_upto_region 1 with fail
  rw [← hW1]
  clear hW1
  have m0 := HM.out.c 0
  have m1 := HM.out.c 1
  go_wp2_with (at_make; refine wpList_make_full _ rfl _ _ 49 rfl W1.heap.size 3 i0 (.int .i64 0) 1 Try.underlying49 hi hz0 hz1 .i64 .i64 _ _ xs.length rfl rfl rfl rfl (by rw [hz2]; omega) (by unfold maxLen; omega) (by omega) ?_)
  intro w2 hown hgrow
  have hb0 : Below W1.heap.size W1 w2 := (Below.refl _ _).grown hgrow (Nat.le_refl _) (fun k h => by cases h)
  have hown : w2.ownsRow W1.heap.size 3 1 (.slice (some ⟨W1.heap.size, 0, none⟩) xs.length xs.length) xs.length ((cntL xs.length []).map I64) := by
    rw [cntL_nil, List.map_replicate, ← made_one]; exact hown
  have m0 := (HM.out.later hb0).c 0
  have m1 := (HM.out.later hb0).c 1
  have HO0 := Lib.hid hown
  have HB0 := Lib.hid hb0
  clear hown hb0 hgrow
  go_wp2_with fail
  go_loopw [17] (fun i wr => ∃ k : Nat, k ≤ xs.length ∧ i = .int .i64 k ∧ wr.ownsRow W1.heap.size 3 1 (.slice (some ⟨W1.heap.size, 0, none⟩) xs.length xs.length) xs.length ((cntL xs.length (argsL (xs.take k))).map I64) ∧ Below W1.heap.size W1 wr) (fun i _ => xs.length - (intOf i).toNat)
  case atStart => exact ⟨0, Nat.zero_le _, rfl, by simpa [argsL] using HO0.out, HB0.out⟩
  case round =>
    clear m0 m1 HO0 HB0
    obtain ⟨k, hk, rfl, hown, hb⟩ := hrel
    by_cases hlt : k < xs.length
    · have hst := args_step xs k hlt
      have hle := args_takeM xs (k + 1)
      have hav := HA.out k hlt
      obtain ⟨b, o, rfl, hbl, a, ca, c0, c1, c2, c3, hca1, hca2, hrow⟩ := HR.out.1.at hlt
      have c0 := (hb.cell (p := ⟨b, o + k * 4, none⟩) hbl).trans c0
      have c1 := (hb.cell (p := ⟨b, o + k * 4 + 1, none⟩) hbl).trans c1
      have c2 := (hb.cell (p := ⟨b, o + k * 4 + 2, none⟩) hbl).trans c2
      have c3 := (hb.cell (p := ⟨b, o + k * 4 + 3, none⟩) hbl).trans c3
      have hrow := hrow.below hb
      obtain ⟨v, hv⟩ : ∃ v, v = xs[k] := ⟨_, rfl⟩
      have HV := Lib.hid hv
      rw [← hv] at c0 c1 c2 c3 hrow hca1 hst hav
      obtain ⟨ps, hps⟩ : ∃ ps, ps = argsL (xs.take k) := ⟨_, rfl⟩
      rw [← hps] at hown hst
      have hlen : ps.length + v.2.2.2.length ≤ 1099511627776 := by
        rw [← List.length_append, ← hst]
        omega
      obtain ⟨v0, v1, v2, v3⟩ := v
      dsimp only at c0 c1 c2 c3 hrow hca1 hst hav hlen
      have HAV := Lib.hid hav
      have HST := Lib.hid hst
      have hlt' : (k : Int) < (xs.length : Int) := by omega
      have hge' : (0 : Int) ≤ (k : Int) := by omega
      have hO1 := hown.alloc (.cells #[.int .i64 v0, .string v1, .int .i64 v2, .slice a v3.length ca] 56)
      have hB1 := hb.alloc hb.size (.cells #[.int .i64 v0, .string v1, .int .i64 v2, .slice a v3.length ca] 56)
      have hr1 := (hrow.below (show Below W1.heap.size wr (wr.alloc (.cells #[.int .i64 v0, .string v1, .int .i64 v2, .slice a v3.length ca] 56)) from (Below.refl _ _).alloc hb.size _))
      clear hst hps hv hb hown hrow hle HV hav
      go_upto_region 5 with fail
      obtain ⟨W2, hW2⟩ : ∃ W, W = wr.alloc (.cells #[.int .i64 v0, .string v1, .int .i64 v2, .slice a v3.length ca] 56) := ⟨_, rfl⟩
      have M2 := Mbox.new wr #[.int .i64 v0, .string v1, .int .i64 v2, .slice a v3.length ca] 56
      rw [← hW2] at M2 hO1 hB1 hr1 ⊢
      have m3 := M2.c 3
      have HO1 := Lib.hid hO1
      have HB1 := Lib.hid hB1
      have HR1 := Lib.hid hr1
      clear hW2 M2 c0 c1 c2 c3 hO1 hB1 hr1
      go_wp2_with fail
      go_loopw [24] (fun i wr => ∃ q : Nat, q ≤ v3.length ∧ i = .int .i64 q ∧ wr.ownsRow W1.heap.size 3 1 (.slice (some ⟨W1.heap.size, 0, none⟩) xs.length xs.length) xs.length ((cntL xs.length (ps ++ v3.take q)).map I64) ∧ Below W1.heap.size W1 wr ∧ Row I64 wr W1.heap.size a v3) (fun i _ => v3.length - (intOf i).toNat)
      case atStart => exact ⟨0, Nat.zero_le _, rfl, by simpa using HO1.out, HB1.out, HR1.out⟩
      case round =>
        clear m3 HO1 HB1 HR1
        obtain ⟨q, hq, rfl, hown, hb, hr⟩ := hrel
        by_cases hlt2 : q < v3.length
        · obtain ⟨b3, o3, rfl, hbl3, hc⟩ := hr.at hlt2
          have hin := HAV.out _ (List.getElem_mem hlt2)
          obtain ⟨m, hm⟩ : ∃ m : Nat, v3[q] = (m : Int) := ⟨(v3[q]).toNat, by omega⟩
          have hst2 : ps ++ v3.take (q + 1) = (ps ++ v3.take q) ++ [(m : Int)] := by
            rw [List.take_succ_eq_append_getElem hlt2, hm, List.append_assoc]
          rw [hm] at hc hin
          have hlen2 : (ps ++ v3.take q).length ≤ 1099511627776 := by
            rw [List.length_append, List.length_take]
            omega
          obtain ⟨zs, hzs⟩ : ∃ zs, zs = ps ++ v3.take q := ⟨_, rfl⟩
          rw [← hzs] at hown hst2 hlen2
          have hmlt : (m : Int) < (xs.length : Int) := by omega
          have hmge : (0 : Int) ≤ (m : Int) := by omega
          have hlt2' : (q : Int) < (v3.length : Int) := by omega
          have hge2' : (0 : Int) ≤ (q : Int) := by omega
          have hlh : m < (cntL xs.length zs).length := by rw [cntL_len]; omega
          have hd := hown.cellAt m (by omega)
          have hf := hown.frozenAt m
          rw [List.getElem?_map, List.getElem?_eq_getElem hlh, Option.map_some, cntL_at] at hd
          have hcb : (zs).count (m : Int) ≤ (zs).length := List.count_le_length
          have hs := (hown.stored m (I64 (((zs).count (m : Int) : Nat) + 1))).1
          rw [← List.map_set, cntL_step] at hs
          have hs' := hb.setCell (p := ⟨W1.heap.size, m, none⟩) (Nat.le_refl _) (I64 (((zs).count (m : Int) : Nat) + 1))
          have hr' : Row I64 (wr.setCell ⟨W1.heap.size, m, none⟩ (I64 ((zs.count (m : Int) : Nat) + 1))) W1.heap.size (some ⟨b3, o3, none⟩) v3 := hr.below ((Below.refl _ _).setCell (p := ⟨W1.heap.size, m, none⟩) (Nat.le_refl _) _)
          rw [← hst2] at hs
          obtain ⟨cn, hcn⟩ : ∃ cn : Nat, cn = zs.count (m : Int) := ⟨_, rfl⟩
          rw [← hcn] at hd hs hs' hcb hr'
          have hcn2 : (cn : Int) ≤ 1099511627776 := by omega
          have hcn0 : (0 : Int) ≤ (cn : Int) := by omega
          have HS := Lib.hid hs
          have HS' := Lib.hid hs'
          have HR' := Lib.hid hr'
          clear hs hs' hr' hown hb hr hzs hst2 hm hin hlen2 hlh hcb hcn
          go_wp2_with fail
          go_roundw
          case rel => exact ⟨q + 1, by omega, by go_num, HS.out, HS'.out, HR'.out⟩
          case measure => simp [intOf]; omega
        · obtain rfl : q = v3.length := by omega
          rw [List.take_length] at hown
          have HO4 : Hid (wr.ownsRow W1.heap.size 3 1 (.slice (some ⟨W1.heap.size, 0, none⟩) xs.length xs.length) xs.length ((cntL xs.length (argsL (xs.take (k + 1)))).map I64)) := Lib.hid (by rw [HST.out]; exact hown)
          have HB4 := Lib.hid hb
          have hge2 : ¬ ((v3.length : Nat) : Int) < ((v3.length : Nat) : Int) := by omega
          clear hown hb hr
          go_wp2_with fail
          go_roundw
          case rel => exact ⟨k + 1, by omega, by go_num, HO4.out, HB4.out⟩
          case measure => simp [intOf]; omega
    · obtain rfl : k = xs.length := by omega
      rw [List.take_length] at hown
      obtain ⟨aa, haa⟩ : ∃ aa, aa = argsL xs := ⟨_, rfl⟩
      have HAA := Lib.hid haa
      rw [← haa] at hown hz
      have HOW := Lib.hid hown
      have HBW := Lib.hid hb
      have m0 := (HM.out.later hb).c 0
      have m1 := (HM.out.later hb).c 1
      have hge' : ¬ ((xs.length : Nat) : Int) < ((xs.length : Nat) : Int) := by omega
      obtain ⟨zk, hzk⟩ : ∃ zk : Int, zk = ((xs.length : Nat) : Int) := ⟨_, rfl⟩
      clear hown hb haa zk hzk
      go_wp2_with fail
      go_loopw [39] (fun i wr => ∃ k : Nat, k ≤ ys.length ∧ i = .int .i64 k ∧ wr.ownsRow W1.heap.size 3 1 (.slice (some ⟨W1.heap.size, 0, none⟩) xs.length xs.length) xs.length ((cntL xs.length (aa ++ (rtsZ ys).take k)).map I64) ∧ Below W1.heap.size W1 wr) (fun i _ => ys.length - (intOf i).toNat)
      case atStart => exact ⟨0, Nat.zero_le _, rfl, by simpa using HOW.out, HBW.out⟩
      case round =>
        clear m0 m1 HOW HBW hge'
        obtain ⟨k, hk, rfl, hown, hb⟩ := hrel
        by_cases hlt : k < ys.length
        · obtain ⟨b, o, rfl, hbl, hc⟩ := HR.out.2.at hlt
          obtain ⟨c0, c1⟩ := asg_at hc
          have c0 := (hb.cell (p := ⟨b, o + k * 2, none⟩) hbl).trans c0
          have c1 := (hb.cell (p := ⟨b, o + k * 2 + 1, none⟩) hbl).trans c1
          have hin := HY.out k hlt
          have hst := rtsZ_step ys k hlt
          obtain ⟨m, hm⟩ : ∃ m : Nat, (ys[k]).2 = (m : Int) := ⟨((ys[k]).2).toNat, by omega⟩
          rw [hm] at c1 hin hst
          obtain ⟨v0, hv0⟩ : ∃ v0, v0 = (ys[k]).1 := ⟨_, rfl⟩
          rw [← hv0] at c0
          have hst2 : aa ++ (rtsZ ys).take (k + 1) = (aa ++ (rtsZ ys).take k) ++ [(m : Int)] := by
            rw [hst, List.append_assoc]
          have hlen2 : (aa ++ (rtsZ ys).take k).length ≤ 1199511627776 := by
            rw [List.length_append, List.length_take, rtsZ_len]
            omega
          obtain ⟨zs, hzs⟩ : ∃ zs, zs = aa ++ (rtsZ ys).take k := ⟨_, rfl⟩
          rw [← hzs] at hown hst2 hlen2
          have hmlt : (m : Int) < (xs.length : Int) := by omega
          have hmge : (0 : Int) ≤ (m : Int) := by omega
          have hlt2' : (k : Int) < (ys.length : Int) := by omega
          have hge2' : (0 : Int) ≤ (k : Int) := by omega
          have hown := hown.alloc (.cells #[.string v0, .int .i64 m] 58)
          have hb := hb.alloc hb.size (.cells #[.string v0, .int .i64 m] 58)
          have hHS := Lib.hid hst2
          clear hst hzs hm hv0 hst2 hc hin
          go_upto_region 14 with fail
          obtain ⟨W2, hW2⟩ : ∃ W, W = wr.alloc (.cells #[.string v0, .int .i64 m] 58) := ⟨_, rfl⟩
          have M2 := Mbox.new wr #[.string v0, .int .i64 m] 58
          rw [← hW2] at M2 hown hb ⊢
          have n1 := M2.c 1
          clear hW2 M2 c0 c1
          have hlh : m < (cntL xs.length zs).length := by rw [cntL_len]; omega
          have hd := hown.cellAt m (by omega)
          have hf := hown.frozenAt m
          rw [List.getElem?_map, List.getElem?_eq_getElem hlh, Option.map_some, cntL_at] at hd
          have hcb : (zs).count (m : Int) ≤ (zs).length := List.count_le_length
          have hs := (hown.stored m (I64 (((zs).count (m : Int) : Nat) + 1))).1
          rw [← List.map_set, cntL_step] at hs
          have hs' := hb.setCell (p := ⟨W1.heap.size, m, none⟩) (Nat.le_refl _) (I64 (((zs).count (m : Int) : Nat) + 1))
          rw [← hHS.out] at hs
          obtain ⟨cn, hcn⟩ : ∃ cn : Nat, cn = zs.count (m : Int) := ⟨_, rfl⟩
          rw [← hcn] at hd hs hs' hcb
          have hcn2 : (cn : Int) ≤ 1199511627776 := by omega
          have hcn0 : (0 : Int) ≤ (cn : Int) := by omega
          have HS := Lib.hid hs
          have HS' := Lib.hid hs'
          clear hs hs' hown hb hlen2 hlh hcb hcn hHS
          go_wp2_with fail
          go_roundw
          case rel => exact ⟨k + 1, by omega, by go_num, HS.out, HS'.out⟩
          case measure => simp [intOf]; omega
        · obtain rfl : k = ys.length := by omega
          rw [List.take_of_length_le (Nat.le_of_eq (rtsZ_len ys))] at hown
          have hrw : Row I64 wr wr.heap.size (some ⟨W1.heap.size, 0, none⟩) (cntL xs.length (aa ++ rtsZ ys)) := by
            have h := hown
            rw [← cntL_len xs.length (aa ++ rtsZ ys)] at h
            have h := Row.of_own (f := I64) (xs := cntL xs.length (aa ++ rtsZ ys)) (c := (cntL xs.length (aa ++ rtsZ ys)).length) (by simpa only [cntL_len] using hown)
            exact h
          have HRW := Lib.hid hrw
          have HBF := Lib.hid (HB.out.trans (hb.mono HB.out.size))
          have hge2 : ¬ ((ys.length : Nat) : Int) < ((ys.length : Nat) : Int) := by omega
          clear hown hb hrw
          go_wp2_with fail
          go_ret
          exact ⟨_, rfl, by rw [← HAA.out]; exact HRW.out, HBF.out⟩

set_option maxRecDepth 100000 in
set_option maxHeartbeats 8000000 in
theorem sIsValidProg_any (A A' : Option Addr) (c c' : Nat) (xs : List Nd) (ys : List As) (w : World) (hR : ProgIn w w.heap.size A A' xs ys) (hl : xs.length ≤ 1048576) (hl2 : ys.length ≤ 1048576) (hz : (argsL xs).length ≤ 1099511627776) (hx : ∀ x ∈ xs, x.2.1.size ≤ 1048576 ∧ x.2.2.2.length ≤ 1048576) (hy : ∀ y ∈ ys, y.1.size ≤ 1048576) :
    Calls Try.prog 30 #[pgv A A' xs.length c ys.length c'] w (BoolOut (okPr xs ys) w) := by
  have HX := Lib.hid hx
  have HY := Lib.hid hy
  clear hx hy
  obtain ⟨W1, hW1⟩ : ∃ W, W = w.alloc (.cells #[.slice A xs.length c, .slice A' ys.length c'] 35) := ⟨_, rfl⟩
  have M := Mbox.new w #[.slice A xs.length c, .slice A' ys.length c'] 35
  have hB : Below w.heap.size w (w.alloc (.cells #[.slice A xs.length c, .slice A' ys.length c'] 35)) := by go_grown
  have hR1 := (hR.alloc (Nat.le_refl _) (.cells #[.slice A xs.length c, .slice A' ys.length c'] 35)).more (B' := (w.alloc (.cells #[.slice A xs.length c, .slice A' ys.length c'] 35)).heap.size) (by simp)
  rw [← hW1] at M hB hR1
  have HM := Lib.hid M
  have HB := Lib.hid hB
  have HR := Lib.hid hR1
  clear M hB hR hR1
  go_enter Try.func30, Try.ntmps30
  go_upto_region 1 with fail
  rw [← hW1]
  clear hW1
  have m0 := HM.out.c 0
  have m1 := HM.out.c 1
  go_wp2_with fail
  go_loopw [12] (fun i wr => ∃ k : Nat, k ≤ xs.length ∧ i = .int .i64 k ∧ (∀ j (h : j < xs.length), j < k → okN j xs[j]) ∧ Below W1.heap.size W1 wr) (fun i _ => xs.length - (intOf i).toNat)
  case atStart => exact ⟨0, Nat.zero_le _, rfl, fun j _ h => by omega, Below.refl _ _⟩
  case round =>
    clear m0 m1
    obtain ⟨k, hk, rfl, hin, hb⟩ := hrel
    by_cases hlt : k < xs.length
    · obtain ⟨b, o, rfl, hbl, a, ca, c0, c1, c2, c3, hca1, hca2, hrow⟩ := HR.out.1.at hlt
      have c0 := (hb.cell (p := ⟨b, o + k * 4, none⟩) hbl).trans c0
      have c1 := (hb.cell (p := ⟨b, o + k * 4 + 1, none⟩) hbl).trans c1
      have c2 := (hb.cell (p := ⟨b, o + k * 4 + 2, none⟩) hbl).trans c2
      have c3 := (hb.cell (p := ⟨b, o + k * 4 + 3, none⟩) hbl).trans c3
      have hrow := hrow.below hb
      obtain ⟨v, hv⟩ : ∃ v, v = xs[k] := ⟨_, rfl⟩
      have HV := Lib.hid hv
      have hxv := HX.out _ (List.getElem_mem hlt)
      rw [← hv] at c0 c1 c2 c3 hrow hca1 hxv
      obtain ⟨v0, v1, v2, v3⟩ := v
      dsimp only at c0 c1 c2 c3 hrow hca1 hxv
      have hlt' : (k : Int) < (xs.length : Int) := by omega
      have hge' : (0 : Int) ≤ (k : Int) := by omega
      have HIN := Lib.hid hin
      have HB1 := Lib.hid (hb.alloc hb.size (.cells #[.int .i64 v0, .string v1, .int .i64 v2, .slice a v3.length ca] 56))
      have HR1 := Lib.hid (hrow.below (show Below W1.heap.size wr (wr.alloc (.cells #[.int .i64 v0, .string v1, .int .i64 v2, .slice a v3.length ca] 56)) from (Below.refl _ _).alloc hb.size _))
      clear hv hb hin hrow
      go_upto_region 4 with fail
      obtain ⟨W2, hW2⟩ : ∃ W, W = wr.alloc (.cells #[.int .i64 v0, .string v1, .int .i64 v2, .slice a v3.length ca] 56) := ⟨_, rfl⟩
      have M2 := Mbox.new wr #[.int .i64 v0, .string v1, .int .i64 v2, .slice a v3.length ca] 56
      rw [← hW2] at M2 HB1 HR1 ⊢
      have n0 := M2.c 0
      have n1 := M2.c 1
      have n2 := M2.c 2
      have n3 := M2.c 3
      have hs1 : W1.heap.size ≤ W2.heap.size := HB1.out.size
      have hiv := Lib.hid (sNode_any k v0 v2 v1 a ca v3 W2 (HR1.out.more hs1) hxv.1 (by omega) (by omega))
      clear hW2 M2 c0 c1 c2 c3
      go_wp2_with fail
      refine hiv.out.mono ?_
      rintro e w3 ⟨q, rfl, hq, hb3⟩
      have HB3 := Lib.hid (HB1.out.trans (hb3.mono hs1))
      have HQ := Lib.hid hq
      clear hq hb3 hiv n0 n1 n2 n3 HR1 HB1
      cases q with
      | false =>
        have HZ : Hid (¬ okPr xs ys) := Lib.hid fun h => by
          have h1 := h.2.1 k hlt
          rw [← HV.out] at h1
          have := HQ.out.2 h1
          cases this
        go_wp2_with fail
        go_ret
        exact ⟨false, rfl, iffF HZ.out, HB.out.trans (HB3.out.mono HB.out.size)⟩
      | true =>
        have HST : Hid (∀ j (h : j < xs.length), j < k + 1 → okN j xs[j]) := Lib.hid fun j h hj => by
          rcases Nat.lt_or_ge j k with h1 | h1
          · exact HIN.out j h h1
          · obtain rfl : j = k := by omega
            rw [← HV.out]
            exact HQ.out.1 rfl
        go_wp2_with fail
        go_roundw
        case rel => exact ⟨k + 1, by omega, by go_num, HST.out, HB3.out⟩
        case measure => simp [intOf]; omega
    · have HIN : Hid (∀ j (h : j < xs.length), okN j xs[j]) := Lib.hid fun j h => hin j h (by omega)
      have HBW := Lib.hid hb
      have m0 := (HM.out.later hb).c 0
      have m1 := (HM.out.later hb).c 1
      have hge' : ¬ (k : Int) < (xs.length : Int) := by omega
      obtain ⟨zk, hzk⟩ : ∃ zk : Int, zk = (k : Int) := ⟨_, rfl⟩
      rw [← hzk] at hge' ⊢
      clear hin hb hzk hk hlt
      go_wp2_with fail
      go_loopw [25] (fun i wr => ∃ k : Nat, k ≤ ys.length ∧ i = .int .i64 k ∧ (∀ j (h : j < ys.length), j < k → Ident (ys[j]).1 ∧ 0 ≤ (ys[j]).2 ∧ (ys[j]).2 < xs.length) ∧ Below W1.heap.size W1 wr) (fun i _ => ys.length - (intOf i).toNat)
      case atStart => exact ⟨0, Nat.zero_le _, rfl, fun j _ h => by omega, HBW.out⟩
      case round =>
        clear m0 m1 HBW hge'
        obtain ⟨k, hk, rfl, hin, hb⟩ := hrel
        by_cases hlt : k < ys.length
        · obtain ⟨b, o, rfl, hbl, hc⟩ := HR.out.2.at hlt
          obtain ⟨c0, c1⟩ := asg_at hc
          have c0 := (hb.cell (p := ⟨b, o + k * 2, none⟩) hbl).trans c0
          have c1 := (hb.cell (p := ⟨b, o + k * 2 + 1, none⟩) hbl).trans c1
          obtain ⟨v, hv⟩ : ∃ v, v = ys[k] := ⟨_, rfl⟩
          have HV := Lib.hid hv
          have hxv := HY.out _ (List.getElem_mem hlt)
          rw [← hv] at c0 c1 hxv
          obtain ⟨v0, v1⟩ := v
          dsimp only at c0 c1 hxv
          have HIN2 := Lib.hid hin
          have hlt' : (k : Int) < (ys.length : Int) := by omega
          have hge2 : (0 : Int) ≤ (k : Int) := by omega
          have HBW := Lib.hid hb
          have HMW := Lib.hid ((HM.out.later hb).later (show Below wr.heap.size wr (wr.alloc (.cells #[.string v0, .int .i64 v1] 58)) by go_grown))
          clear hv hc hin hb
          go_upto_region 10 with fail
          obtain ⟨W2, hW2⟩ : ∃ W, W = wr.alloc (.cells #[.string v0, .int .i64 v1] 58) := ⟨_, rfl⟩
          have M2 := Mbox.new wr #[.string v0, .int .i64 v1] 58
          have hB2 := HBW.out.alloc HBW.out.size (.cells #[.string v0, .int .i64 v1] 58)
          rw [← hW2] at M2 hB2 HMW ⊢
          have n0 := M2.c 0
          have HM2 := Lib.hid M2
          have HB2 := Lib.hid hB2
          have hs3 : W1.heap.size ≤ W2.heap.size := hB2.size
          have hid2 := Lib.hid (sIdent_any v0 W2 hxv)
          clear hW2 M2 c0 c1 hB2
          go_wp2_with fail
          refine hid2.out.mono ?_
          rintro e w3 ⟨q, rfl, hq, hb3⟩
          have n1 := (HM2.out.later hb3).c 1
          have m0 := (HMW.out.later hb3).c 0
          have HB3 := Lib.hid (HB2.out.trans (hb3.mono hs3))
          have HQ := Lib.hid hq
          clear hq hb3 hid2 n0 HM2 HMW
          cases q with
          | false =>
            have HZ : Hid (¬ okPr xs ys) := Lib.hid fun h => by
              have h1 := h.2.2.1 k hlt
              rw [← HV.out] at h1
              have := HQ.out.2 h1
              cases this
            go_wp2_with fail
            go_ret
            exact ⟨false, rfl, iffF HZ.out, HB.out.trans (HB3.out.mono HB.out.size)⟩
          | true =>
            have HIQ := Lib.hid (HQ.out.1 rfl)
            clear HQ
            go_wp2_with fail
            refine (l01InQ _ _ _ _).mono ?_
            rintro e w4 ⟨rfl, rfl⟩
            cases hq4 : inQ 0 ((xs.length : Int) - 1) v1 with
            | false =>
              have HZ : Hid (¬ okPr xs ys) := Lib.hid fun h => by
                have h1 := okPr_root h hlt
                rw [← HV.out] at h1
                exact inQ_not hq4 ⟨h1.1, by have := h1.2; simp only at this; omega⟩
              clear hq4
              go_wp2_with fail
              go_ret
              exact ⟨false, rfl, iffF HZ.out, HB.out.trans (HB3.out.mono HB.out.size)⟩
            | true =>
              have hin4 := (inQ_iff ..).1 hq4
              have HST : Hid (∀ j (h : j < ys.length), j < k + 1 → Ident (ys[j]).1 ∧ 0 ≤ (ys[j]).2 ∧ (ys[j]).2 < xs.length) := Lib.hid fun j h hj => by
                rcases Nat.lt_or_ge j k with h1 | h1
                · exact HIN2.out j h h1
                · obtain rfl : j = k := by omega
                  rw [← HV.out]
                  exact ⟨HIQ.out, hin4.1, by show v1 < _; omega⟩
              clear hq4 hin4
              go_wp2_with fail
              go_roundw
              case rel => exact ⟨k + 1, by omega, by go_num, HST.out, HB3.out⟩
              case measure => simp [intOf]; omega
        · have HIY : Hid (∀ j (h : j < ys.length), Ident (ys[j]).1 ∧ 0 ≤ (ys[j]).2 ∧ (ys[j]).2 < xs.length) := Lib.hid fun j h => hin j h (by omega)
          have HBW := Lib.hid hb
          have m0 := (HM.out.later hb).c 0
          have m1 := (HM.out.later hb).c 1
          have hge2 : ¬ (k : Int) < (ys.length : Int) := by omega
          have hus := Lib.hid (sUses_any A A' c c' xs ys wr (HR.out.later hb) hl hl2 hz (fun i h => (HIN.out i h).2) (fun j h => (HIY.out j h).2))
          obtain ⟨zk, hzk⟩ : ∃ zk : Int, zk = (k : Int) := ⟨_, rfl⟩
          rw [← hzk] at hge2 ⊢
          clear hin hb hzk hk hlt
          go_wp2_with fail
          refine hus.out.mono ?_
          rintro e w5 ⟨U, rfl, hru, hb5⟩
          have hbw5 := HBW.out.trans (hb5.mono HBW.out.size)
          have m0 := (HM.out.later hbw5).c 0
          have HRU := Lib.hid hru
          have HB5 := Lib.hid (HB.out.trans (hbw5.mono HB.out.size))
          clear hru hb5 hbw5 hus HBW
          go_wp2_with fail
          go_loop [47] (fun i => ∃ k : Nat, k ≤ xs.length ∧ i = .int .i64 k ∧ ∀ j, j < xs.length → j < k → (refsP xs ys).count (j : Int) = 1) (fun i => xs.length - (intOf i).toNat)
          case atStart => exact ⟨0, Nat.zero_le _, rfl, fun j _ h => by omega⟩
          case round =>
            obtain ⟨k, hk, rfl, hin⟩ := hrel
            by_cases hlt : k < xs.length
            · have hlt2 : k < (cntL xs.length (argsL xs ++ rtsZ ys)).length := by rw [cntL_len]; exact hlt
              obtain ⟨b, o, rfl, hbl, c0⟩ := HRU.out.at hlt2
              rw [cntL_at, uses_perm] at c0
              obtain ⟨cn, hcn⟩ : ∃ cn : Nat, cn = (refsP xs ys).count (k : Int) := ⟨_, rfl⟩
              rw [← hcn] at c0
              have HCN := Lib.hid hcn
              have HIN3 := Lib.hid hin
              have hlt' : (k : Int) < (xs.length : Int) := by omega
              have hge3 : (0 : Int) ≤ (k : Int) := by omega
              clear hcn hin m0 hlt2
              by_cases h1 : cn = 1
              · have b0 : ((cn : Int) != 1) = false := by simp; omega
                have HST : Hid (∀ j, j < xs.length → j < k + 1 → (refsP xs ys).count (j : Int) = 1) := Lib.hid fun j h hj => by
                  rcases Nat.lt_or_ge j k with h2 | h2
                  · exact HIN3.out j h h2
                  · obtain rfl : j = k := by omega
                    rw [← HCN.out]
                    exact h1
                clear h1
                go_wp2_with fail
                go_round
                case rel => exact ⟨k + 1, by omega, by go_num, HST.out⟩
                case measure => simp [intOf]; omega
              · have b0 : ((cn : Int) != 1) = true := by simp; omega
                have HZ : Hid (¬ okPr xs ys) := Lib.hid fun h => h1 (by rw [HCN.out]; exact counts_perm h.2.2.2 hlt)
                clear h1
                go_wp2_with fail
                go_ret
                exact ⟨false, rfl, iffF HZ.out, HB5.out⟩
            · have HPM : Hid ((refsP xs ys).Perm (upZ xs.length)) := Lib.hid (perm_counts (refs_in (fun i h => (HIN.out i h).2) (fun j h => (HIY.out j h).2)) (fun j hj => hin j hj (by omega)))
              clear hin
              have hge3 : ¬ (k : Int) < (xs.length : Int) := by omega
              by_cases h60 : xs.length ≤ 60
              · have b0 : decide ((xs.length : Int) ≤ 60) = true := decide_eq_true (by omega)
                have HZ : Hid (okPr xs ys) := Lib.hid ⟨h60, HIN.out, fun j h => (HIY.out j h).1, HPM.out⟩
                go_wp2_with fail
                go_ret
                exact ⟨true, rfl, iffT HZ.out, HB5.out⟩
              · have b0 : decide ((xs.length : Int) ≤ 60) = false := decide_eq_false (by omega)
                have HZ : Hid (¬ okPr xs ys) := Lib.hid fun h => h60 h.1
                go_wp2_with fail
                go_ret
                exact ⟨false, rfl, iffF HZ.out, HB5.out⟩
end Go.Proofs.Ytpcdlehicdepaaa
