/- SameCache of the model. -/
import Derived.Test.YtaelhbbfddcabaaProg
import Derived.Test.YtaelhbbfddcabaaInts
import Derived.Test.YtaelhbbfddcabaaVbox
import Derived.Test.YtaelhbbfddcabaaHeld
import Derived.Test.YtaelhbbfddcabaaMem
import Derived.Test.YtaelhbbfddcabaaFlat
import Derived.Test.YtaelhbbfddcabaaRowC
import Derived.Test.YtaelhbbfddcabaaKS
import Derived.Test.YtaelhbbfddcabaaStrS
import Derived.Test.YtaelhbbfddcabaaIntS
import Derived.Test.YtaelhbbfddcabaaSS
import Derived.Test.YtaelhbbfddcabaaVi
import Derived.Test.YtaelhbbfddcabaaVa
import Derived.Test.YtaelhbbfddcabaaVb
import Derived.Test.YtaelhbbfddcabaaVc
import Derived.Test.YtaelhbbfddcabaaWa
import Derived.Test.YtaelhbbfddcabaaWb
import Derived.Test.YtaelhbbfddcabaaVd
import Derived.Test.YtaelhbbfddcabaaVe
import Derived.Test.YtaelhbbfddcabaaVf
import Derived.Test.YtaelhbbfddcabaaVh
import Derived.Test.YtaelhbbfddcabaaWc
import Derived.Test.YtaelhbbfddcabaaWd
import Derived.WalkKit
import Derived.WalkSpells
import Derived.WalkLawsBesides
import Derived.Lib.Hide
import Derived.Deep.RegionHeld3
import Derived.Deep.QuietTactic
import Derived.BigQuiet
import Derived.Handy
import Derived.Deep.DeepCutAuto
import Derived.OwnWalk
import Derived.Lib.OwnBridge
namespace Go.Proofs.Ytaelhbbfddcabaa
open Go.RowKit

theorem tne_run (a b c d e f : Int) (w : World) : (binOp .neq 50 (tlv a b c) (tlv d e f)).run Try.prog w = .ok (.bool (!teqB a b c d e f)) w := by
  rw [run_neq_struct, teq_in]; rfl
/-- two caches are the same -/
def sameCP (R : Int) (xs : List V3) (Q : Int) (R' : Int) (ys : List V3) (Q' : Int) : Bool := decide (R = R' ∧ Q = Q' ∧ xs = ys)
theorem same_no {R R' Q Q' : Int} {xs ys : List V3} (h : ¬ (R = R' ∧ Q = Q' ∧ xs = ys)) : sameCP R xs Q R' ys Q' = false := decide_eq_false h
theorem same_yes {R R' Q Q' : Int} {xs ys : List V3} (h : R = R' ∧ Q = Q' ∧ xs = ys) : sameCP R xs Q R' ys Q' = true := decide_eq_true h

set_option maxRecDepth 100000 in
set_option maxHeartbeats 8000000 in
theorem sSameC_any (R : Int) (A : Option Addr) (c : Nat) (xs : List V3) (Q : Int) (R' : Int) (A' : Option Addr) (c' : Nat) (ys : List V3) (Q' : Int) (w : World) (hR : RowC 3 vg w w.heap.size A xs) (hR' : RowC 3 vg w w.heap.size A' ys) (hl : xs.length ≤ 1048577) (hl' : ys.length ≤ 1048577) :
    Calls Try.prog 41 #[cav R A xs.length c Q, cav R' A' ys.length c' Q'] w fun e w' => e = .returned (.bool (sameCP R xs Q R' ys Q')) ∧ Below w.heap.size w w' := by
  have HT : Held w ((w.alloc (.cells #[.int .i64 R, .slice A xs.length c, .int .i64 Q] 29)).alloc (.cells #[.int .i64 R', .slice A' ys.length c', .int .i64 Q'] 29)) [(w.heap.size + 1, [.int .i64 R', .slice A' ys.length c', .int .i64 Q']), (w.heap.size, [.int .i64 R, .slice A xs.length c, .int .i64 Q])] := by
    have h := ((Held.nil w).new #[.int .i64 R, .slice A xs.length c, .int .i64 Q] 29).new #[.int .i64 R', .slice A' ys.length c', .int .i64 Q'] 29
    simpa only [World.size_alloc] using h
  obtain ⟨W1, hW1⟩ : ∃ W, W = (w.alloc (.cells #[.int .i64 R, .slice A xs.length c, .int .i64 Q] 29)).alloc (.cells #[.int .i64 R', .slice A' ys.length c', .int .i64 Q'] 29) := ⟨_, rfl⟩
  rw [← hW1] at HT
  have HRA := Lib.hid hR
  have HRB := Lib.hid hR'
  clear hR hR'
  go_enter Try.func41, Try.ntmps41
  go_upto_region 1 with fail
  rw [← hW1]
  generalize g1 : w.heap.size + 1 = k1 at HT ⊢
  generalize g0 : w.heap.size = k0 at HT ⊢
  have m0 := (HT.box 1).c 0
  have m1 := (HT.box 1).c 1
  have m2 := (HT.box 1).c 2
  have n0 := (HT.box 0).c 0
  have n1 := (HT.box 0).c 1
  have n2 := (HT.box 0).c 2
  have HTH := Lib.hid HT
  clear hW1 g0 g1 HT
  by_cases hr : R = R'
  · by_cases hq : Q = Q'
    · obtain ⟨lx, hlx⟩ : ∃ n, n = xs.length := ⟨_, rfl⟩
      obtain ⟨ly, hly⟩ : ∃ n, n = ys.length := ⟨_, rfl⟩
      rw [← hlx] at m1 ⊢
      rw [← hly] at n1 ⊢
      have d1 : (R != R') = false := by rw [hr]; simp
      have d2 : (Q != Q') = false := by rw [hq]; simp
      by_cases hll : lx = ly
      · have d3 : ((lx : Int) != (ly : Int)) = false := by rw [hll]; simp
        have HEQ := Lib.hid (And.intro hr (And.intro hq (And.intro hlx (And.intro hly hll))))
        have hlb : lx ≤ 1048577 := by omega
        clear hr hq hlx hly hll
        go_wp2_with fail
        go_loopw [31] (fun iv wr => ∃ k : Nat, k ≤ lx ∧ iv = .int .i64 k ∧ Held w wr [(k1, [.int .i64 R', .slice A' ly c', .int .i64 Q']), (k0, [.int .i64 R, .slice A lx c, .int .i64 Q])] ∧ ∀ j (h : j < xs.length) (h' : j < ys.length), j < k → xs[j] = ys[j]) (fun iv _ => lx - (intOf iv).toNat)
        case atStart => exact ⟨0, Nat.zero_le _, rfl, by rw [HEQ.out.2.2.1, HEQ.out.2.2.2.1]; exact HTH.out, fun j _ _ h => by omega⟩
        case round =>
          clear m0 m1 m2 n0 n1 n2
          obtain ⟨k, hk, rfl, HT, hno⟩ := hrel
          have HNO := Lib.hid hno
          clear hno
          by_cases hlt : k < lx
          · have hkx : k < xs.length := by have := HEQ.out; omega
            have hky : k < ys.length := by have := HEQ.out; omega
            obtain ⟨b, o, hA, hbl, hc⟩ := HRA.out.at hkx
            obtain ⟨b', o', hA', hbl', hc'⟩ := HRB.out.at hky
            subst hA hA'
            obtain ⟨c0, c1, c2⟩ := vg_at hc
            obtain ⟨e0, e1, e2⟩ := vg_at hc'
            obtain ⟨v, hv⟩ : ∃ v, v = xs[k] := ⟨_, rfl⟩
            obtain ⟨u, hu⟩ : ∃ v, v = ys[k] := ⟨_, rfl⟩
            rw [← hv] at c0 c1 c2
            rw [← hu] at e0 e1 e2
            obtain ⟨v0, v1, v2⟩ := v
            obtain ⟨z0, z1, z2⟩ := u
            dsimp only at c0 c1 c2 e0 e1 e2
            have HE : Hid (∀ W, Below w.heap.size w W → W.cell? ⟨b', o' + k * 3, none⟩ = some (.int .i64 z0) ∧ W.cell? ⟨b', o' + k * 3 + 1, none⟩ = some (.int .i64 z1) ∧ W.cell? ⟨b', o' + k * 3 + 2, none⟩ = some (.int .i64 z2)) := Lib.hid (fun W h => ⟨(h.cell (p := ⟨b', o' + k * 3, none⟩) hbl').trans e0, (h.cell (p := ⟨b', o' + k * 3 + 1, none⟩) hbl').trans e1, (h.cell (p := ⟨b', o' + k * 3 + 2, none⟩) hbl').trans e2⟩)
            have c0 := (HT.below.cell (p := ⟨b, o + k * 3, none⟩) hbl).trans c0
            have c1 := (HT.below.cell (p := ⟨b, o + k * 3 + 1, none⟩) hbl).trans c1
            have c2 := (HT.below.cell (p := ⟨b, o + k * 3 + 2, none⟩) hbl).trans c2
            have hlt' : (k : Int) < (lx : Int) := by omega
            have hlu' : (k : Int) < (ly : Int) := by have := HEQ.out; omega
            have hge' : (0 : Int) ≤ (k : Int) := by omega
            have ek : IntKind.i64.wrap ((k : Int) + 1) = ((k + 1 : Nat) : Int) := wrap_v (by omega)
            have HV := Lib.hid (And.intro hv hu)
            have HTN := HT.new #[.int .i64 v0, .int .i64 v1, .int .i64 v2] 50
            clear hc hc' hv hu e0 e1 e2
            go_upto_region 6 with fail
            obtain ⟨W2, hW2⟩ : ∃ W, W = wr.alloc (.cells #[.int .i64 v0, .int .i64 v1, .int .i64 v2] 50) := ⟨_, rfl⟩
            obtain ⟨k2, hk2⟩ : ∃ k, k = wr.heap.size := ⟨_, rfl⟩
            rw [← hW2] at HTN ⊢
            rw [← hk2] at HTN ⊢
            have m0 := (HTN.box 0).c 0
            have m1 := (HTN.box 0).c 1
            have m2 := (HTN.box 0).c 2
            have n1 := (HTN.box 1).c 1
            obtain ⟨e0, e1, e2⟩ := HE.out _ HTN.below
            have h1 := tne_run v0 v1 v2 z0 z1 z2
            obtain ⟨q, hq⟩ : ∃ q, q = teqB v0 v1 v2 z0 z1 z2 := ⟨_, rfl⟩
            rw [← hq] at h1
            have HQQ := Lib.hid hq
            have HTT := Lib.hid HTN.tail
            clear hW2 hk2 c0 c1 c2 HT HTN hq
            go_quiet (fail)
            have HT := HTT.out.drewN nq
            have HTW := Lib.hid HT
            clear m0 m1 m2 n1 e0 e1 e2 h1 HT HTT
            cases q with
            | true =>
              have HN2 : Hid (∀ j (h : j < xs.length) (h' : j < ys.length), j < k + 1 → xs[j] = ys[j]) := Lib.hid (fun j h h' hj => by
                by_cases e : j = k
                · subst e
                  rw [← HV.out.1, ← HV.out.2]
                  exact teq_iff.1 HQQ.out.symm
                · exact HNO.out j h h' (by omega))
              go_wp2_with fail
              go_roundw
              case rel => exact ⟨k + 1, by omega, by go_num, HTW.out, HN2.out⟩
              case measure => simp [intOf]; omega
            | false =>
              have HP : Hid (sameCP R xs Q R' ys Q' = false) := Lib.hid (same_no (fun h => by
                obtain ⟨_, _, h⟩ := h
                subst h
                have h2 : ((v0, v1, v2) : V3) = (z0, z1, z2) := HV.out.1.trans HV.out.2.symm
                have := HQQ.out
                rw [teq_iff.2 h2] at this
                cases this))
              go_wp2_with fail
              go_ret
              exact ⟨by rw [HP.out]; rfl, HTW.out.below⟩
          · have HP : Hid (sameCP R xs Q R' ys Q' = true) := Lib.hid (same_yes ⟨HEQ.out.1, HEQ.out.2.1, List.ext_getElem (by have := HEQ.out; omega) fun j h h' => HNO.out j h h' (by have := HEQ.out; omega)⟩)
            have HB := Lib.hid HT.below
            clear HT
            go_wp2_with fail
            go_ret
            exact ⟨by rw [HP.out]; rfl, HB.out⟩
      · have d3 : ((lx : Int) != (ly : Int)) = true := by rw [bne_iff_ne]; omega
        have HP : Hid (sameCP R xs Q R' ys Q' = false) := Lib.hid (same_no (fun h => hll (by rw [hlx, hly, h.2.2])))
        clear hr hq hll hlx hly
        go_wp2_with fail
        go_ret
        exact ⟨by rw [HP.out]; rfl, HTH.out.below⟩
    · have d1 : (R != R') = false := by rw [hr]; simp
      have d2 : (Q != Q') = true := by rw [bne_iff_ne]; exact hq
      have HP : Hid (sameCP R xs Q R' ys Q' = false) := Lib.hid (same_no (fun h => hq h.2.1))
      clear hr hq
      go_wp2_with fail
      go_ret
      exact ⟨by rw [HP.out]; rfl, HTH.out.below⟩
  · have d1 : (R != R') = true := by rw [bne_iff_ne]; exact hr
    have HP : Hid (sameCP R xs Q R' ys Q' = false) := Lib.hid (same_no (fun h => hr h.1))
    clear hr
    go_wp2_with fail
    go_ret
    exact ⟨by rw [HP.out]; rfl, HTH.out.below⟩
end Go.Proofs.Ytaelhbbfddcabaa
