/- The checker of the model: IsUniform, UniformCount. -/
import Derived.Test.YtpcdlehicdepaaaProg
import Derived.Test.YtpcdlehicdepaaaInts
import Derived.Test.YtpcdlehicdepaaaVbox
import Derived.Test.YtpcdlehicdepaaaHeld
import Derived.Test.YtpcdlehicdepaaaMem
import Derived.Test.YtpcdlehicdepaaaFlat
import Derived.Test.YtpcdlehicdepaaaRowC
import Derived.Test.YtpcdlehicdepaaaKS
import Derived.Test.YtpcdlehicdepaaaStrS
import Derived.Test.YtpcdlehicdepaaaIntS
import Derived.Test.YtpcdlehicdepaaaSS
import Derived.Test.YtpcdlehicdepaaaPg
import Derived.Test.YtpcdlehicdepaaaPh
import Derived.Test.YtpcdlehicdepaaaPi
import Derived.Test.YtpcdlehicdepaaaIdent
import Derived.Test.YtpcdlehicdepaaaPn
import Derived.Test.YtpcdlehicdepaaaQa
import Derived.Test.YtpcdlehicdepaaaQb
import Derived.Test.YtpcdlehicdepaaaQd
import Derived.Test.YtpcdlehicdepaaaQe
import Derived.Test.YtpcdlehicdepaaaSa
import Derived.Test.YtpcdlehicdepaaaSb
import Derived.Test.YtpcdlehicdepaaaSc
import Derived.Test.YtpcdlehicdepaaaSd
import Derived.Test.YtpcdlehicdepaaaSe
import Derived.Test.YtpcdlehicdepaaaSf
import Derived.Test.YtpcdlehicdepaaaSg
import Derived.WalkKit
import Derived.WalkSpells
import Derived.WalkLawsBesides
import Derived.Lib.Hide
import Derived.Deep.RegionHeld3
import Derived.Deep.QuietTactic
import Derived.BigQuiet
import Derived.Handy
import Derived.Deep.DeepCutAuto
import Derived.OwnWalk
namespace Go.Proofs.Ytpcdlehicdepaaa
open Go.RowKit

open Classical in
/-- what IsUniform answers -/
noncomputable def uniP (xs : List Nd) (ys : List As) (i : Int) : Bool := if chkP xs ys = (0, 0) ∧ 0 ≤ i ∧ i < xs.length then uV xs ys i.toNat else false
/-- the uniform nodes among the first k -/
noncomputable def cntU (xs : List Nd) (ys : List As) (k : Nat) : Nat := (List.range k).countP fun i : Nat => uniP xs ys (i : Int)
theorem cntU_step (xs : List Nd) (ys : List As) (k : Nat) : cntU xs ys (k + 1) = cntU xs ys k + (if uniP xs ys (k : Int) = true then 1 else 0) := by
  unfold cntU
  rw [List.range_succ, List.countP_append]
  simp
theorem cntU_le (xs : List Nd) (ys : List As) (k : Nat) : cntU xs ys k ≤ k := by
  unfold cntU
  have := List.countP_le_length (p := fun i : Nat => uniP xs ys (i : Int)) (l := List.range k)
  simpa using this
theorem chk_zero {xs : List Nd} {ys : List As} (h : (chkP xs ys).1 = 0) : chkP xs ys = (0, 0) := by
  unfold chkP at h ⊢
  split at h
  · rename_i hok
    rw [if_pos hok]
    unfold chkV at h ⊢
    split at h
    · simp at h
    split at h
    · simp at h
    split at h
    · simp at h
    split at h
    · simp at h
    · rename_i h4
      rw [if_neg h4]
  · simp at h
theorem uniP_no {xs : List Nd} {ys : List As} (h : chkP xs ys ≠ (0, 0)) (i : Int) : uniP xs ys i = false := by
  unfold uniP
  rw [if_neg (fun k => h k.1)]

set_option maxRecDepth 100000 in
set_option maxHeartbeats 8000000 in
theorem sIsUni_any (A A' : Option Addr) (c c' : Nat) (xs : List Nd) (ys : List As) (i : Int) (w : World) (hR : ProgIn w w.heap.size A A' xs ys) (hl : xs.length ≤ 1048576) (hl2 : ys.length ≤ 1048576) (hz : (argsL xs).length ≤ 1099511627776) (hx : ∀ x ∈ xs, x.2.1.size ≤ 1048576 ∧ x.2.2.2.length ≤ 1048576) (hy : ∀ y ∈ ys, y.1.size ≤ 1048576) :
    Calls Try.prog 23 #[pgv A A' xs.length c ys.length c', .int .i64 i] w fun e w' => e = .returned (.bool (uniP xs ys i)) ∧ Below w.heap.size w w' := by
  have HCK := Lib.hid (fun W (h : ProgIn W W.heap.size A A' xs ys) => sCheck_any A A' c c' xs ys W h hl hl2 hz hx hy)
  have HXS := Lib.hid (fun x (h : x ∈ xs) => (hx x h).2)
  clear hz hx hy
  obtain ⟨W1, hW1⟩ : ∃ W, W = w.alloc (.cells #[.slice A xs.length c, .slice A' ys.length c'] 35) := ⟨_, rfl⟩
  have M := Mbox.new w #[.slice A xs.length c, .slice A' ys.length c'] 35
  have hB : Below w.heap.size w (w.alloc (.cells #[.slice A xs.length c, .slice A' ys.length c'] 35)) := by go_grown
  have hR1 := (hR.alloc (Nat.le_refl _) (.cells #[.slice A xs.length c, .slice A' ys.length c'] 35)).more (B' := (w.alloc (.cells #[.slice A xs.length c, .slice A' ys.length c'] 35)).heap.size) (by simp)
  rw [← hW1] at M hB hR1
  have HM := Lib.hid M
  have HB := Lib.hid hB
  have HR := Lib.hid hR1
  clear M hB hR hR1
  go_enter Try.func23, Try.ntmps23
  go_upto_region 1 with fail
  rw [← hW1]
  clear hW1
  have m0 := HM.out.c 0
  have m1 := HM.out.c 1
  have hck := HCK.out _ HR.out
  by_cases h0 : chkP xs ys = (0, 0)
  · rw [h0] at hck
    have HC := Lib.hid hck
    have HH := Lib.hid h0
    clear hck h0
    go_wp2_with fail
    refine HC.out.mono ?_
    rintro e w2 ⟨rfl, hb2⟩
    have HM2 := Lib.hid (HM.out.later hb2)
    have HB2 := Lib.hid (HB.out.trans (hb2.mono HB.out.size))
    have HR2 := Lib.hid (HR.out.later hb2)
    clear hb2 m0 m1
    have m0 := HM2.out.c 0
    have m1 := HM2.out.c 1
    have HQ := Lib.hid (l01InQ i 0 ((xs.length : Int) - 1) w2)
    by_cases hin : 0 ≤ i ∧ i < xs.length
    · have hq : inQ 0 ((xs.length : Int) - 1) i = true := (inQ_iff ..).2 (by omega)
      rw [hq] at HQ
      have HOW := Lib.hid (sUni_any A A' c c' xs ys w2 HR2.out HH.out (fun x h => HXS.out x h))
      obtain ⟨n, rfl⟩ : ∃ n : Nat, i = (n : Int) := ⟨i.toNat, by omega⟩
      have HP : Hid (uniP xs ys (n : Int) = uV xs ys n) := Lib.hid (by
        unfold uniP
        rw [if_pos ⟨HH.out, hin⟩]
        rfl)
      have hn : n < xs.length := by omega
      clear hq
      go_wp2_with fail
      refine HQ.out.mono ?_
      rintro e w3 ⟨rfl, rfl⟩
      go_wp2_with fail
      refine HOW.out.mono ?_
      rintro e w3 ⟨A2, rfl, hrow, hb3⟩
      have HB3 := Lib.hid (HB2.out.trans (hb3.mono HB2.out.size))
      obtain ⟨b, o, rfl, hbl, hc0⟩ := hrow.at (k := n) (by simp; omega)
      have hc : w3.cell? ⟨b, o + n, none⟩ = some (.bool (uV xs ys n)) := by simpa using hc0
      have hnlt : (n : Int) < (xs.length : Int) := by omega
      have hnge : (0 : Int) ≤ (n : Int) := by omega
      obtain ⟨z, hz⟩ : ∃ z, z = uV xs ys n := ⟨_, rfl⟩
      rw [← hz] at hc HP
      clear hc0 hrow hb3 m0 m1 hz hin
      go_wp2_with fail
      go_ret
      exact ⟨by rw [HP.out]; rfl, HB3.out⟩
    · have hq : inQ 0 ((xs.length : Int) - 1) i = false := by
        apply Bool.eq_false_iff.2
        intro e
        have := (inQ_iff ..).1 e
        omega
      rw [hq] at HQ
      have HP : Hid (uniP xs ys i = false) := Lib.hid (by unfold uniP; rw [if_neg (fun k => hin k.2)])
      clear hq hin
      go_wp2_with fail
      refine HQ.out.mono ?_
      rintro e w3 ⟨rfl, rfl⟩
      go_wp2_with fail
      go_ret
      exact ⟨by rw [HP.out]; rfl, HB2.out⟩
  · have HP := Lib.hid (uniP_no h0 i)
    obtain ⟨q, hq⟩ : ∃ q, q = (chkP xs ys).1 := ⟨_, rfl⟩
    have hq0 : (q == 0) = false := by
      apply Bool.eq_false_iff.2
      intro e
      exact h0 (chk_zero (by rw [← hq]; exact eq_of_beq e))
    rw [← hq] at hck
    have HC := Lib.hid hck
    clear hck h0 hq
    go_wp2_with fail
    refine HC.out.mono ?_
    rintro e w2 ⟨rfl, hb2⟩
    have HB2 := Lib.hid (HB.out.trans (hb2.mono HB.out.size))
    clear hb2 m0 m1
    go_wp2_with fail
    go_ret
    exact ⟨by rw [HP.out]; rfl, HB2.out⟩

set_option maxRecDepth 100000 in
set_option maxHeartbeats 8000000 in
theorem sUniCount_any (A A' : Option Addr) (c c' : Nat) (xs : List Nd) (ys : List As) (w : World) (hR : ProgIn w w.heap.size A A' xs ys) (hl : xs.length ≤ 1048576) (hl2 : ys.length ≤ 1048576) (hz : (argsL xs).length ≤ 1099511627776) (hx : ∀ x ∈ xs, x.2.1.size ≤ 1048576 ∧ x.2.2.2.length ≤ 1048576) (hy : ∀ y ∈ ys, y.1.size ≤ 1048576) :
    Calls Try.prog 25 #[pgv A A' xs.length c ys.length c'] w fun e w' => e = .returned (.int .i64 ((cntU xs ys xs.length : Nat) : Int)) ∧ Below w.heap.size w w' := by
  have HIU := Lib.hid (fun (i : Int) W (h : ProgIn W W.heap.size A A' xs ys) => sIsUni_any A A' c c' xs ys i W h hl hl2 hz hx hy)
  clear hz hx hy
  obtain ⟨W1, hW1⟩ : ∃ W, W = w.alloc (.cells #[.slice A xs.length c, .slice A' ys.length c'] 35) := ⟨_, rfl⟩
  have M := Mbox.new w #[.slice A xs.length c, .slice A' ys.length c'] 35
  have hB : Below w.heap.size w (w.alloc (.cells #[.slice A xs.length c, .slice A' ys.length c'] 35)) := by go_grown
  have hR1 := (hR.alloc (Nat.le_refl _) (.cells #[.slice A xs.length c, .slice A' ys.length c'] 35)).more (B' := (w.alloc (.cells #[.slice A xs.length c, .slice A' ys.length c'] 35)).heap.size) (by simp)
  rw [← hW1] at M hB hR1
  have HM := Lib.hid M
  have HB := Lib.hid hB
  have HR := Lib.hid hR1
  clear M hB hR hR1
  go_enter Try.func25, Try.ntmps25
  go_upto_region 1 with fail
  rw [← hW1]
  clear hW1
  have m0 := HM.out.c 0
  have m1 := HM.out.c 1
  go_wp2_with fail
  go_loopw [3, 8] (fun v i wr => ∃ k : Nat, k ≤ xs.length ∧ i = .int .i64 k ∧ v = .int .i64 ((cntU xs ys k : Nat) : Int) ∧ Below W1.heap.size W1 wr) (fun _ i _ => xs.length - (intOf i).toNat)
  case atStart => exact ⟨0, Nat.zero_le _, rfl, by simp [cntU], Below.refl _ _⟩
  case round =>
    clear m0 m1
    obtain ⟨k, hk, rfl, rfl, hb⟩ := hrel
    have hst := cntU_step xs ys k
    have hle := cntU_le xs ys k
    obtain ⟨q, hq⟩ : ∃ q, q = cntU xs ys k := ⟨_, rfl⟩
    rw [← hq] at hst hle ⊢
    have HST := Lib.hid hst
    have HQQ := Lib.hid hq
    clear hst hq
    by_cases hlt : k < xs.length
    · have hlt' : (k : Int) < (xs.length : Int) := by omega
      have hge' : (0 : Int) ≤ (k : Int) := by omega
      have hm := HM.out.later hb
      have m0 := hm.c 0
      have m1 := hm.c 1
      have HC := Lib.hid (HIU.out (k : Int) wr (HR.out.later hb))
      have HBW := Lib.hid hb
      obtain ⟨u, hu⟩ : ∃ u, u = uniP xs ys (k : Int) := ⟨_, rfl⟩
      rw [← hu] at HC HST
      clear hm hb hu
      go_wp2_with fail
      refine HC.out.mono ?_
      rintro e w3 ⟨rfl, hb3⟩
      have HB3 := Lib.hid (HBW.out.trans (hb3.mono HBW.out.size))
      clear hb3 m0 m1
      cases u with
      | true =>
        go_wp2_with fail
        go_roundw
        case rel => exact ⟨k + 1, by omega, by go_num, by rw [HST.out]; go_num, HB3.out⟩
        case measure => simp [intOf]; omega
      | false =>
        go_wp2_with fail
        go_roundw
        case rel => exact ⟨k + 1, by omega, by go_num, by rw [HST.out]; go_num, HB3.out⟩
        case measure => simp [intOf]; omega
    · obtain rfl : k = xs.length := by omega
      have HBF := Lib.hid (HB.out.trans (hb.mono HB.out.size))
      have hge2 : ¬ ((xs.length : Nat) : Int) < ((xs.length : Nat) : Int) := by omega
      clear hb
      go_wp2_with fail
      go_ret
      exact ⟨by rw [← HQQ.out]; rfl, HBF.out⟩
end Go.Proofs.Ytpcdlehicdepaaa
