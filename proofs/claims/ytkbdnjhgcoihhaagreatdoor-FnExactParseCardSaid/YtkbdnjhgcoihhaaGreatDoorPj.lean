/- What a law reads of a program that it copied; CountOp. -/
import Derived.Test.YtkbdnjhgcoihhaaGreatDoorProg
import Derived.Test.YtkbdnjhgcoihhaaGreatDoorInts
import Derived.Test.YtkbdnjhgcoihhaaGreatDoorVbox
import Derived.Test.YtkbdnjhgcoihhaaGreatDoorHeld
import Derived.Test.YtkbdnjhgcoihhaaGreatDoorMem
import Derived.Test.YtkbdnjhgcoihhaaGreatDoorFlat
import Derived.Test.YtkbdnjhgcoihhaaGreatDoorRowC
import Derived.Test.YtkbdnjhgcoihhaaGreatDoorKS
import Derived.Test.YtkbdnjhgcoihhaaGreatDoorStrS
import Derived.Test.YtkbdnjhgcoihhaaGreatDoorIntS
import Derived.Test.YtkbdnjhgcoihhaaGreatDoorSS
import Derived.Test.YtkbdnjhgcoihhaaGreatDoorPg
import Derived.Test.YtkbdnjhgcoihhaaGreatDoorPh
import Derived.Test.YtkbdnjhgcoihhaaGreatDoorPi
import Derived.WalkKit
import Derived.WalkSpells
import Derived.WalkLawsBesides
import Derived.Lib.Hide
import Derived.Deep.RegionHeld3
import Derived.Deep.QuietTactic
import Derived.BigQuiet
import Derived.Handy
import Derived.Deep.DeepCutAuto
namespace Go.Proofs.YtkbdnjhgcoihhaaGreatDoor
open Go.RowKit

theorem ProgIn.drew {w : World} {A A' : Option Addr} {xs : List Nd} {ys : List As} (h : ProgIn w w.heap.size A A' xs ys) : ProgIn w.drew w.drew.heap.size A A' xs ys := h


/-- how many nodes have this Op -/
def cntP (op : Int) (xs : List Nd) : Nat := xs.countP (fun v => v.1 == op)
theorem cntP_yes (op : Int) (xs : List Nd) (k : Nat) (h : k < xs.length) (h0 : ((xs[k]).1 == op) = true) : cntP op (xs.take (k + 1)) = cntP op (xs.take k) + 1 := by
  unfold cntP
  rw [List.take_succ_eq_append_getElem h, List.countP_append]
  simp [h0]
theorem cntP_no (op : Int) (xs : List Nd) (k : Nat) (h : k < xs.length) (h0 : ((xs[k]).1 == op) = false) : cntP op (xs.take (k + 1)) = cntP op (xs.take k) := by
  unfold cntP
  rw [List.take_succ_eq_append_getElem h, List.countP_append]
  simp [h0]
theorem cntP_le (op : Int) (xs : List Nd) (k : Nat) (h : k ≤ xs.length) : cntP op (xs.take k) ≤ k := by
  have := List.countP_le_length (p := fun v : Nd => v.1 == op) (l := xs.take k)
  unfold cntP
  simp at this
  omega


end Go.Proofs.YtkbdnjhgcoihhaaGreatDoor
