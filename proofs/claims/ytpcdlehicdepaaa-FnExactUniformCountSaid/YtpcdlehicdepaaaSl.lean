/- OwnerOf of the program. -/
import Derived.Test.YtpcdlehicdepaaaProg
import Derived.Test.YtpcdlehicdepaaaInts
import Derived.Test.YtpcdlehicdepaaaVbox
import Derived.Test.YtpcdlehicdepaaaHeld
import Derived.Test.YtpcdlehicdepaaaMem
import Derived.Test.YtpcdlehicdepaaaFlat
import Derived.Test.YtpcdlehicdepaaaRowC
import Derived.Test.YtpcdlehicdepaaaKS
import Derived.Test.YtpcdlehicdepaaaStrS
import Derived.Test.YtpcdlehicdepaaaIntS
import Derived.Test.YtpcdlehicdepaaaSS
import Derived.Test.YtpcdlehicdepaaaPg
import Derived.Test.YtpcdlehicdepaaaPh
import Derived.Test.YtpcdlehicdepaaaPi
import Derived.Test.YtpcdlehicdepaaaIdent
import Derived.Test.YtpcdlehicdepaaaPn
import Derived.Test.YtpcdlehicdepaaaQa
import Derived.Test.YtpcdlehicdepaaaQb
import Derived.Test.YtpcdlehicdepaaaQd
import Derived.Test.YtpcdlehicdepaaaQe
import Derived.Test.YtpcdlehicdepaaaSa
import Derived.Test.YtpcdlehicdepaaaSb
import Derived.Test.YtpcdlehicdepaaaQc
import Derived.Test.YtpcdlehicdepaaaSc
import Derived.Test.YtpcdlehicdepaaaSd
import Derived.Test.YtpcdlehicdepaaaSh
import Derived.Test.YtpcdlehicdepaaaSi
import Derived.Test.YtpcdlehicdepaaaSj
import Derived.Test.YtpcdlehicdepaaaSk
import Derived.Test.YtpcdlehicdepaaaPj
import Derived.Test.YtpcdlehicdepaaaPk
import Derived.Test.YtpcdlehicdepaaaPl
import Derived.Test.YtpcdlehicdepaaaPm
import Derived.WalkKit
import Derived.WalkSpells
import Derived.WalkLawsBesides
import Derived.Lib.Hide
import Derived.Deep.RegionHeld3
import Derived.Deep.QuietTactic
import Derived.BigQuiet
import Derived.Handy
import Derived.Deep.DeepCutAuto
import Derived.OwnWalk
import Derived.RangeFuncNested
import Derived.RangeFuncBound
import Derived.RangeFuncCalls
import Derived.RangeFuncLeaves
import Derived.RangeFuncWrites
import Derived.OwnWalkIn
import Derived.TacticsInMore
import Derived.LoopNIn
import Derived.LoopIn
import Derived.RangeFuncBox
import Derived.Shelf.Abstract
import Derived.Maps.AppendAt
namespace Go.Proofs.Ytpcdlehicdepaaa
open Go.RowKit Go.Shelf
attribute [local go_sem] Oper.semAt_some

theorem ownersQ_any (A A' : Option Addr) (c c' : Nat) (xs : List Nd) (ys : List As) (w : World) (hR : ProgIn w w.heap.size A A' xs ys) (hok : okPr xs ys) :
    Calls Try.prog 36 #[pgv A A' xs.length c ys.length c'] w (OwnOutQ xs ys w) := (callsIn_wide (n := 3)).1 (owners_go A A' c c' xs ys w hR hok)
theorem owners_any (A A' : Option Addr) (c c' : Nat) (xs : List Nd) (ys : List As) (w : World) (hR : ProgIn w w.heap.size A A' xs ys) (hok : okPr xs ys) :
    Calls Try.prog 36 #[pgv A A' xs.length c ys.length c'] w (OwnOut xs ys w) := (ownersQ_any A A' c c' xs ys w hR hok).mono fun e w' h => by
  obtain ⟨A2, h1, h2, h3⟩ := h
  exact ⟨A2, h1, Row.of_own (f := I64) (xs := (List.range xs.length).map (ownV xs ys)) h2, h3⟩

set_option maxRecDepth 100000 in
set_option maxHeartbeats 4000000 in
theorem ownerOf_any (A A' : Option Addr) (c c' : Nat) (xs : List Nd) (ys : List As) (i : Int) (w : World) (hR : ProgIn w w.heap.size A A' xs ys) (hl : xs.length ≤ 1048576) (hl2 : ys.length ≤ 1048576) (hz : ys.length + (argsL xs).length ≤ 1099511627776) (hx : ∀ x ∈ xs, x.2.1.size ≤ 1048576 ∧ x.2.2.2.length ≤ 1048576) (hy : ∀ y ∈ ys, y.1.size ≤ 1048576) :
    Calls Try.prog 19 #[pgv A A' xs.length c ys.length c', .int .i64 i] w fun e w' => e = .returned (.int .i64 (ownP xs ys i)) ∧ Below w.heap.size w w' := by
  have HVC := Lib.hid (fun W (h : ProgIn W W.heap.size A A' xs ys) => isValidProg_any A A' c c' xs ys W h hl hl2 hz hx hy)
  clear hz hx hy
  obtain ⟨W1, hW1⟩ : ∃ W, W = w.alloc (.cells #[.slice A xs.length c, .slice A' ys.length c'] 35) := ⟨_, rfl⟩
  have M := Mbox.new w #[.slice A xs.length c, .slice A' ys.length c'] 35
  have hB : Below w.heap.size w (w.alloc (.cells #[.slice A xs.length c, .slice A' ys.length c'] 35)) := by go_grown
  have hR1 := (hR.alloc (Nat.le_refl _) (.cells #[.slice A xs.length c, .slice A' ys.length c'] 35)).more (B' := (w.alloc (.cells #[.slice A xs.length c, .slice A' ys.length c'] 35)).heap.size) (by simp)
  rw [← hW1] at M hB hR1
  have HM := Lib.hid M
  have HB := Lib.hid hB
  have HR := Lib.hid hR1
  clear M hB hR hR1
  go_enter Try.func19, Try.ntmps19
  go_upto_region 1 with fail
  rw [← hW1]
  clear hW1
  have m0 := HM.out.c 0
  have m1 := HM.out.c 1
  go_wp2_with fail
  refine (HVC.out _ HR.out).mono ?_
  rintro e w2 hq
  obtain ⟨v, rfl, hv, hb2⟩ := hq
  have m0 := (HM.out.later hb2).c 0
  have m1 := (HM.out.later hb2).c 1
  have HB2 := Lib.hid (HB.out.trans (hb2.mono HB.out.size))
  have HR2 := Lib.hid (HR.out.later hb2)
  cases v with
  | false =>
    have hno : ¬ okPr xs ys := fun k => by have := hv.2 k; cases this
    have HP : Hid (ownP xs ys i = -1) := Lib.hid (by unfold ownP; rw [if_neg (fun k => hno k.1)])
    clear hv hno hb2
    go_wp2_with fail
    go_ret
    exact ⟨by rw [HP.out]; rfl, HB2.out⟩
  | true =>
    have hok : okPr xs ys := hv.1 rfl
    have HOK := Lib.hid hok
    have HQ := Lib.hid (isWithinQ i 0 ((xs.length : Int) - 1) w2)
    clear hv hb2 hok
    by_cases hin : 0 ≤ i ∧ i < xs.length
    · have hq : inQ 0 ((xs.length : Int) - 1) i = true := (inQ_iff ..).2 (by omega)
      rw [hq] at HQ
      have HOW := Lib.hid (owners_any A A' c c' xs ys w2 HR2.out HOK.out)
      obtain ⟨n, rfl⟩ : ∃ n : Nat, i = (n : Int) := ⟨i.toNat, by omega⟩
      have HP : Hid (ownP xs ys (n : Int) = ownV xs ys n) := Lib.hid (by
        unfold ownP
        rw [if_pos ⟨HOK.out, hin⟩]
        rfl)
      have hn : n < xs.length := by omega
      clear hq
      go_wp2_with fail
      refine HQ.out.mono ?_
      rintro e w3 ⟨rfl, rfl⟩
      go_wp2_with fail
      refine HOW.out.mono ?_
      rintro e w3 ⟨A2, rfl, hrow, hb3⟩
      have HB3 := Lib.hid (HB2.out.trans (hb3.mono HB2.out.size))
      obtain ⟨b, o, rfl, hbl, hc0⟩ := hrow.at (k := n) (by simp; omega)
      have hc : w3.cell? ⟨b, o + n, none⟩ = some (I64 (ownV xs ys n)) := by simpa using hc0
      have hnlt : (n : Int) < (xs.length : Int) := by omega
      have hnge : (0 : Int) ≤ (n : Int) := by omega
      obtain ⟨z, hz⟩ : ∃ z, z = ownV xs ys n := ⟨_, rfl⟩
      rw [← hz] at hc HP
      clear hc0 hrow hb3 m0 m1 hz hin
      go_wp2_with fail
      go_ret
      exact ⟨by rw [HP.out]; rfl, HB3.out⟩
    · have hq : inQ 0 ((xs.length : Int) - 1) i = false := by
        apply Bool.eq_false_iff.2
        intro e
        have := (inQ_iff ..).1 e
        omega
      rw [hq] at HQ
      have HP : Hid (ownP xs ys i = -1) := Lib.hid (by unfold ownP; rw [if_neg (fun k => hin k.2)])
      clear hq hin
      go_wp2_with fail
      refine HQ.out.mono ?_
      rintro e w3 ⟨rfl, rfl⟩
      go_wp2_with fail
      go_ret
      exact ⟨by rw [HP.out]; rfl, HB2.out⟩
end Go.Proofs.Ytpcdlehicdepaaa
