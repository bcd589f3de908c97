/- IsUniform and UniformCount of the program. -/
import Derived.Test.YtpcdlehicdepaaaProg
import Derived.Test.YtpcdlehicdepaaaInts
import Derived.Test.YtpcdlehicdepaaaVbox
import Derived.Test.YtpcdlehicdepaaaHeld
import Derived.Test.YtpcdlehicdepaaaMem
import Derived.Test.YtpcdlehicdepaaaFlat
import Derived.Test.YtpcdlehicdepaaaRowC
import Derived.Test.YtpcdlehicdepaaaKS
import Derived.Test.YtpcdlehicdepaaaStrS
import Derived.Test.YtpcdlehicdepaaaIntS
import Derived.Test.YtpcdlehicdepaaaSS
import Derived.Test.YtpcdlehicdepaaaPg
import Derived.Test.YtpcdlehicdepaaaPh
import Derived.Test.YtpcdlehicdepaaaPi
import Derived.Test.YtpcdlehicdepaaaIdent
import Derived.Test.YtpcdlehicdepaaaPn
import Derived.Test.YtpcdlehicdepaaaQa
import Derived.Test.YtpcdlehicdepaaaQb
import Derived.Test.YtpcdlehicdepaaaQd
import Derived.Test.YtpcdlehicdepaaaQe
import Derived.Test.YtpcdlehicdepaaaSa
import Derived.Test.YtpcdlehicdepaaaSb
import Derived.Test.YtpcdlehicdepaaaQc
import Derived.Test.YtpcdlehicdepaaaSc
import Derived.Test.YtpcdlehicdepaaaSd
import Derived.Test.YtpcdlehicdepaaaSf
import Derived.Test.YtpcdlehicdepaaaSg
import Derived.Test.YtpcdlehicdepaaaSh
import Derived.Test.YtpcdlehicdepaaaSi
import Derived.Test.YtpcdlehicdepaaaSj
import Derived.Test.YtpcdlehicdepaaaSk
import Derived.Test.YtpcdlehicdepaaaSl
import Derived.Test.YtpcdlehicdepaaaSm
import Derived.Test.YtpcdlehicdepaaaSn
import Derived.Test.YtpcdlehicdepaaaSp
import Derived.Test.YtpcdlehicdepaaaSq
import Derived.Test.YtpcdlehicdepaaaSr
import Derived.Test.YtpcdlehicdepaaaPj
import Derived.Test.YtpcdlehicdepaaaPk
import Derived.Test.YtpcdlehicdepaaaPl
import Derived.Test.YtpcdlehicdepaaaPm
import Derived.WalkKit
import Derived.WalkSpells
import Derived.WalkLawsBesides
import Derived.Lib.Hide
import Derived.Deep.RegionHeld3
import Derived.Deep.QuietTactic
import Derived.BigQuiet
import Derived.Handy
import Derived.Deep.DeepCutAuto
import Derived.OwnWalk
import Derived.Shelf.Abstract
import Derived.Maps.RangeWalk
import Derived.Maps.Ext
import Derived.Maps.OwnOps
import Derived.Maps.Views
import Derived.Maps.Keyed
import Derived.StringKeys
import Derived.OpenShut
namespace Go.Proofs.Ytpcdlehicdepaaa
open Go.RowKit Go.Shelf Go.Maps

theorem cntU_no {xs : List Nd} {ys : List As} (h : chkP xs ys ≠ (0, 0)) (k : Nat) : cntU xs ys k = 0 := by
  unfold cntU
  rw [List.countP_eq_zero]
  intro i _
  rw [uniP_no h]
  simp

set_option maxRecDepth 100000 in
set_option maxHeartbeats 4000000 in
theorem isUni_any (A A' : Option Addr) (c c' : Nat) (xs : List Nd) (ys : List As) (i : Int) (w : World) (hR : ProgIn w w.heap.size A A' xs ys) (hl : xs.length ≤ 1048576) (hl2 : ys.length ≤ 1048576) (hz : ys.length + (argsL xs).length ≤ 1099511627776) (hx : ∀ x ∈ xs, x.2.1.size ≤ 1048576 ∧ x.2.2.2.length ≤ 1048576) (hy : ∀ y ∈ ys, y.1.size ≤ 1048576) :
    Calls Try.prog 24 #[pgv A A' xs.length c ys.length c', .int .i64 i] w fun e w' => e = .returned (.bool (uniP xs ys i)) ∧ Below w.heap.size w w' := by
  have HNO := Lib.hid (fun (h0 : chkP xs ys ≠ (0, 0)) W (h : ProgIn W W.heap.size A A' xs ys) => uniNo_any A A' c c' xs ys W h hl hl2 hz hx hy h0)
  have HYE := Lib.hid (fun (h0 : chkP xs ys = (0, 0)) W (h : ProgIn W W.heap.size A A' xs ys) => uniYes_any A A' c c' xs ys W h hl hl2 hz hx hy h0)
  clear hz hx hy
  obtain ⟨W1, hW1⟩ : ∃ W, W = w.alloc (.cells #[.slice A xs.length c, .slice A' ys.length c'] 35) := ⟨_, rfl⟩
  have M := Mbox.new w #[.slice A xs.length c, .slice A' ys.length c'] 35
  have hB : Below w.heap.size w (w.alloc (.cells #[.slice A xs.length c, .slice A' ys.length c'] 35)) := by go_grown
  have hR1 := (hR.alloc (Nat.le_refl _) (.cells #[.slice A xs.length c, .slice A' ys.length c'] 35)).more (B' := (w.alloc (.cells #[.slice A xs.length c, .slice A' ys.length c'] 35)).heap.size) (by simp)
  rw [← hW1] at M hB hR1
  have HM := Lib.hid M
  have HB := Lib.hid hB
  have HR := Lib.hid hR1
  clear M hB hR hR1
  go_enter Try.func24, Try.ntmps24
  go_upto_region 1 with fail
  rw [← hW1]
  clear hW1
  have m0 := HM.out.c 0
  have m1 := HM.out.c 1
  by_cases h0 : chkP xs ys = (0, 0)
  · have HC := Lib.hid (HYE.out h0 _ HR.out)
    have HH := Lib.hid h0
    clear h0
    go_wp2_with fail
    refine HC.out.mono ?_
    rintro e w2 ⟨A2, rfl, hrow, hb2⟩
    have HB2 := Lib.hid (HB.out.trans (hb2.mono HB.out.size))
    have HQ := Lib.hid (isWithinQ i 0 ((xs.length : Int) - 1) w2)
    clear hb2 m0 m1
    by_cases hin : 0 ≤ i ∧ i < xs.length
    · have hq : inQ 0 ((xs.length : Int) - 1) i = true := (inQ_iff ..).2 (by omega)
      rw [hq] at HQ
      obtain ⟨n, rfl⟩ : ∃ n : Nat, i = (n : Int) := ⟨i.toNat, by omega⟩
      have HP := Lib.hid (uniP_yes HH.out (show n < xs.length by omega))
      obtain ⟨b, o, rfl, hbl, hc0⟩ := hrow.at (k := n) (by simp; omega)
      have hc : w2.cell? ⟨b, o + n, none⟩ = some (.bool (uV xs ys n)) := by simpa using hc0
      have hnlt : (n : Int) < (xs.length : Int) := by omega
      have hnge : (0 : Int) ≤ (n : Int) := by omega
      obtain ⟨z, hz⟩ : ∃ z, z = uV xs ys n := ⟨_, rfl⟩
      rw [← hz] at hc HP
      clear hq hc0 hrow hz hin
      go_wp2_with fail
      refine HQ.out.mono ?_
      rintro e w3 ⟨rfl, rfl⟩
      go_wp2_with fail
      go_ret
      exact ⟨by rw [HP.out]; rfl, HB2.out⟩
    · have hq : inQ 0 ((xs.length : Int) - 1) i = false := by
        apply Bool.eq_false_iff.2
        intro e
        have := (inQ_iff ..).1 e
        omega
      rw [hq] at HQ
      have HP : Hid (uniP xs ys i = false) := Lib.hid (by unfold uniP; rw [if_neg (fun k => hin k.2)])
      clear hq hin hrow
      go_wp2_with fail
      refine HQ.out.mono ?_
      rintro e w3 ⟨rfl, rfl⟩
      go_wp2_with fail
      go_ret
      exact ⟨by rw [HP.out]; rfl, HB2.out⟩
  · have HC := Lib.hid (HNO.out h0 _ HR.out)
    have HP := Lib.hid (uniP_no h0 i)
    clear h0
    go_wp2_with fail
    refine HC.out.mono ?_
    rintro e w2 ⟨rfl, hb2⟩
    have HB2 := Lib.hid (HB.out.trans (hb2.mono HB.out.size))
    have HQ := Lib.hid (isWithinQ i 0 (-1) w2)
    have hq : inQ 0 (-1) i = false := by
      apply Bool.eq_false_iff.2
      intro e
      have := (inQ_iff ..).1 e
      omega
    rw [hq] at HQ
    clear hb2 m0 m1 hq
    go_wp2_with fail
    refine HQ.out.mono ?_
    rintro e w3 ⟨rfl, rfl⟩
    go_wp2_with fail
    go_ret
    exact ⟨by rw [HP.out]; rfl, HB2.out⟩

set_option maxRecDepth 100000 in
set_option maxHeartbeats 4000000 in
theorem uniCount_any (A A' : Option Addr) (c c' : Nat) (xs : List Nd) (ys : List As) (w : World) (hR : ProgIn w w.heap.size A A' xs ys) (hl : xs.length ≤ 1048576) (hl2 : ys.length ≤ 1048576) (hz : ys.length + (argsL xs).length ≤ 1099511627776) (hx : ∀ x ∈ xs, x.2.1.size ≤ 1048576 ∧ x.2.2.2.length ≤ 1048576) (hy : ∀ y ∈ ys, y.1.size ≤ 1048576) :
    Calls Try.prog 26 #[pgv A A' xs.length c ys.length c'] w fun e w' => e = .returned (.int .i64 ((cntU xs ys xs.length : Nat) : Int)) ∧ Below w.heap.size w w' := by
  have HNO := Lib.hid (fun (h0 : chkP xs ys ≠ (0, 0)) W (h : ProgIn W W.heap.size A A' xs ys) => uniNo_any A A' c c' xs ys W h hl hl2 hz hx hy h0)
  have HYE := Lib.hid (fun (h0 : chkP xs ys = (0, 0)) W (h : ProgIn W W.heap.size A A' xs ys) => uniYes_any A A' c c' xs ys W h hl hl2 hz hx hy h0)
  clear hz hx hy
  obtain ⟨W1, hW1⟩ : ∃ W, W = w.alloc (.cells #[.slice A xs.length c, .slice A' ys.length c'] 35) := ⟨_, rfl⟩
  have M := Mbox.new w #[.slice A xs.length c, .slice A' ys.length c'] 35
  have hB : Below w.heap.size w (w.alloc (.cells #[.slice A xs.length c, .slice A' ys.length c'] 35)) := by go_grown
  have hR1 := (hR.alloc (Nat.le_refl _) (.cells #[.slice A xs.length c, .slice A' ys.length c'] 35)).more (B' := (w.alloc (.cells #[.slice A xs.length c, .slice A' ys.length c'] 35)).heap.size) (by simp)
  rw [← hW1] at M hB hR1
  have HM := Lib.hid M
  have HB := Lib.hid hB
  have HR := Lib.hid hR1
  clear M hB hR hR1
  go_enter Try.func26, Try.ntmps26
  go_upto_region 1 with fail
  rw [← hW1]
  clear hW1
  have m0 := HM.out.c 0
  have m1 := HM.out.c 1
  by_cases h0 : chkP xs ys = (0, 0)
  · have HC := Lib.hid (HYE.out h0 _ HR.out)
    have HH := Lib.hid h0
    clear h0
    go_wp2_with fail
    refine HC.out.mono ?_
    rintro e w2 ⟨A2, rfl, hrow, hb2⟩
    have HB2 := Lib.hid (HB.out.trans (hb2.mono HB.out.size))
    have HRW := Lib.hid hrow
    clear hb2 m0 m1 hrow
    go_wp2_with fail
    go_loopw [3, 9] (fun v i wr => ∃ k : Nat, k ≤ xs.length ∧ i = .int .i64 k ∧ v = .int .i64 ((cntU xs ys k : Nat) : Int) ∧ wr = w2) (fun _ i _ => xs.length - (intOf i).toNat)
    case atStart => exact ⟨0, Nat.zero_le _, rfl, by simp [cntU], rfl⟩
    case round =>
      obtain ⟨k, hk, rfl, rfl, rfl⟩ := hrel
      have hst := cntU_step xs ys k
      have hle := cntU_le xs ys k
      by_cases hlt : k < xs.length
      · rw [uniP_yes HH.out hlt] at hst
        obtain ⟨q, hq⟩ : ∃ q, q = cntU xs ys k := ⟨_, rfl⟩
        rw [← hq] at hst hle ⊢
        obtain ⟨b, o, rfl, hbl, hc0⟩ := HRW.out.at (k := k) (by simp; omega)
        have hc : wr.cell? ⟨b, o + k, none⟩ = some (.bool (uV xs ys k)) := by simpa using hc0
        obtain ⟨u, hu⟩ : ∃ u, u = uV xs ys k := ⟨_, rfl⟩
        rw [← hu] at hc hst
        have HST := Lib.hid hst
        have hlt' : (k : Int) < (xs.length : Int) := by omega
        have hge' : (0 : Int) ≤ (k : Int) := by omega
        clear hc0 hst hq hu
        cases u with
        | true =>
          go_wp2_with fail
          go_roundw
          case rel => exact ⟨k + 1, by omega, by go_num, by rw [HST.out]; go_num, by first | rfl | trivial⟩
          case measure => simp [intOf]; omega
        | false =>
          go_wp2_with fail
          go_roundw
          case rel => exact ⟨k + 1, by omega, by go_num, by rw [HST.out]; go_num, by first | rfl | trivial⟩
          case measure => simp [intOf]; omega
      · obtain rfl : k = xs.length := by omega
        have hge2 : ¬ ((xs.length : Nat) : Int) < ((xs.length : Nat) : Int) := by omega
        clear hst
        go_wp2_with fail
        go_ret
        exact ⟨rfl, HB2.out⟩
  · have HC := Lib.hid (HNO.out h0 _ HR.out)
    have HP := Lib.hid (cntU_no h0 xs.length)
    clear h0
    go_wp2_with fail
    refine HC.out.mono ?_
    rintro e w2 ⟨rfl, hb2⟩
    have HB2 := Lib.hid (HB.out.trans (hb2.mono HB.out.size))
    clear hb2 m0 m1
    go_wp2_with fail
    go_loopw [3, 9] (fun v i wr => i = .int .i64 0 ∧ v = .int .i64 0 ∧ wr = w2) (fun _ _ _ => 0)
    case atStart => exact ⟨rfl, rfl, rfl⟩
    case round =>
      obtain ⟨rfl, rfl, rfl⟩ := hrel
      go_wp2_with fail
      go_ret
      exact ⟨by rw [HP.out]; rfl, HB2.out⟩
end Go.Proofs.Ytpcdlehicdepaaa
