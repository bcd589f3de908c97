/- What a law reads of a program that it copied; CountOp. -/
import Derived.Test.YtpcdlehicdepaaaProg
import Derived.Test.YtpcdlehicdepaaaInts
import Derived.Test.YtpcdlehicdepaaaVbox
import Derived.Test.YtpcdlehicdepaaaHeld
import Derived.Test.YtpcdlehicdepaaaMem
import Derived.Test.YtpcdlehicdepaaaFlat
import Derived.Test.YtpcdlehicdepaaaRowC
import Derived.Test.YtpcdlehicdepaaaKS
import Derived.Test.YtpcdlehicdepaaaStrS
import Derived.Test.YtpcdlehicdepaaaIntS
import Derived.Test.YtpcdlehicdepaaaSS
import Derived.Test.YtpcdlehicdepaaaPg
import Derived.Test.YtpcdlehicdepaaaPh
import Derived.Test.YtpcdlehicdepaaaPi
import Derived.WalkKit
import Derived.WalkSpells
import Derived.WalkLawsBesides
import Derived.Lib.Hide
import Derived.Deep.RegionHeld3
import Derived.Deep.QuietTactic
import Derived.BigQuiet
import Derived.Handy
import Derived.Deep.DeepCutAuto
namespace Go.Proofs.Ytpcdlehicdepaaa
open Go.RowKit

theorem ProgIn.drew {w : World} {A A' : Option Addr} {xs : List Nd} {ys : List As} (h : ProgIn w w.heap.size A A' xs ys) : ProgIn w.drew w.drew.heap.size A A' xs ys := h

theorem toProg_rd (A A' : Option Addr) (c c' : Nat) (xs : List Nd) (ys : List As) (w : World) (hR : ProgIn w w.heap.size A A' xs ys) (hl : xs.length ≤ 1099511627776) (hl' : ys.length ≤ 1099511627776) (hm : ∀ x ∈ xs, x.2.2.2.length ≤ 1099511627776) :
    Calls Try.prog 18 #[pgv A A' xs.length c ys.length c'] w fun e w' => ∃ (g g' : Nat), e = .returned (pgv (some ⟨g, 0, none⟩) (some ⟨g', 0, none⟩) xs.length xs.length ys.length ys.length) ∧ Below w.heap.size w w' ∧ ProgIn w' w'.heap.size (some ⟨g, 0, none⟩) (some ⟨g', 0, none⟩) xs ys := by
  refine (toProg_own A A' c c' xs ys w hR hl hl' hm).mono ?_
  rintro e w' ⟨hb, g, g', ps, hps, rfl, hP⟩
  have hr := hP.read (fun p hp => by
    have h := hm p.2 (by rw [← hps]; exact List.mem_map.2 ⟨p, hp, rfl⟩)
    unfold maxLen
    omega)
  rw [hps] at hr
  exact ⟨g, g', rfl, hb, hr⟩

/-- how many nodes have this Op -/
def cntP (op : Int) (xs : List Nd) : Nat := xs.countP (fun v => v.1 == op)
theorem cntP_yes (op : Int) (xs : List Nd) (k : Nat) (h : k < xs.length) (h0 : ((xs[k]).1 == op) = true) : cntP op (xs.take (k + 1)) = cntP op (xs.take k) + 1 := by
  unfold cntP
  rw [List.take_succ_eq_append_getElem h, List.countP_append]
  simp [h0]
theorem cntP_no (op : Int) (xs : List Nd) (k : Nat) (h : k < xs.length) (h0 : ((xs[k]).1 == op) = false) : cntP op (xs.take (k + 1)) = cntP op (xs.take k) := by
  unfold cntP
  rw [List.take_succ_eq_append_getElem h, List.countP_append]
  simp [h0]
theorem cntP_le (op : Int) (xs : List Nd) (k : Nat) (h : k ≤ xs.length) : cntP op (xs.take k) ≤ k := by
  have := List.countP_le_length (p := fun v : Nd => v.1 == op) (l := xs.take k)
  unfold cntP
  simp at this
  omega


end Go.Proofs.Ytpcdlehicdepaaa
