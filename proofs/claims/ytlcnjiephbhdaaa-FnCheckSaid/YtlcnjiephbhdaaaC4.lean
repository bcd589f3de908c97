/- Merged texts: Sg Sp. -/
import Derived.Test.YtlcnjiephbhdaaaProg
import Derived.Test.YtlcnjiephbhdaaaC0
import Derived.Test.YtlcnjiephbhdaaaC1
import Derived.Test.YtlcnjiephbhdaaaC2
import Derived.Test.YtlcnjiephbhdaaaC3
import Derived.WalkKit
import Derived.WalkSpells
import Derived.WalkLawsBesides
import Derived.Lib.Hide
import Derived.Deep.RegionHeld3
import Derived.Deep.QuietTactic
import Derived.BigQuiet
import Derived.Handy
import Derived.Deep.DeepCutAuto
import Derived.OwnWalk
namespace Go.Proofs.Ytlcnjiephbhdaaa
section
open Go.RowKit

theorem infoBoolU : (Try.prog.info? 4).map (fun i => (i.zero, i.size, i.bytes)) = some (some (.bool false), 1, 1) := by kernel_rfl
abbrev BoolV : Bool → Value := Value.bool
section
variable (xs : List Nd) (ys : List As)
/-- nodes that have been visited when assignment k stands at node i -/
def visB (k i j : Nat) : Bool := decide (ownV xs ys j < (k : Int)) || (decide (ownV xs ys j = (k : Int)) && decide (j < i))
def outL (k i : Nat) : List Bool := (List.range xs.length).map fun j => visB xs ys k i j && uV xs ys j
def donL (k i : Nat) : List Bool := (List.range xs.length).map fun j => visB xs ys k i j
end
section
variable {xs : List Nd} {ys : List As} {k i : Nat}
theorem outL_len : (outL xs ys k i).length = xs.length := by simp [outL]
theorem donL_len : (donL xs ys k i).length = xs.length := by simp [donL]
theorem outL_at {j : Nat} (h : j < (outL xs ys k i).length) : (outL xs ys k i)[j] = (visB xs ys k i j && uV xs ys j) := by simp [outL]
theorem donL_at {j : Nat} (h : j < (donL xs ys k i).length) : (donL xs ys k i)[j] = visB xs ys k i j := by simp [donL]
theorem vis_0 (h : okPr xs ys) {j : Nat} (hj : j < xs.length) : visB xs ys 0 0 j = false := by
  have := ownV_bd h hj
  unfold visB
  rw [decide_eq_false (by omega)]
  simp
theorem outL_0 (h : okPr xs ys) : outL xs ys 0 0 = List.replicate xs.length false := by
  refine List.ext_getElem (by simp [outL]) fun j h1 h2 => ?_
  rw [outL_at h1, vis_0 h (by simpa [outL] using h1)]
  simp
theorem donL_0 (h : okPr xs ys) : donL xs ys 0 0 = List.replicate xs.length false := by
  refine List.ext_getElem (by simp [donL]) fun j h1 h2 => ?_
  rw [donL_at h1, vis_0 h (by simpa [donL] using h1)]
  simp
theorem vis_skip (ho : ownV xs ys i ≠ (k : Int)) (j : Nat) : visB xs ys k (i + 1) j = visB xs ys k i j := by
  unfold visB
  by_cases e : j = i
  · subst e
    rw [decide_eq_false ho]
    rfl
  · congr 2
    exact decide_eq_decide.2 (by omega)
theorem outL_skip (ho : ownV xs ys i ≠ (k : Int)) : outL xs ys k (i + 1) = outL xs ys k i := by
  unfold outL
  congr 1
  funext j
  rw [vis_skip ho]
theorem donL_skip (ho : ownV xs ys i ≠ (k : Int)) : donL xs ys k (i + 1) = donL xs ys k i := by
  unfold donL
  congr 1
  funext j
  rw [vis_skip ho]
theorem vis_here (ho : ownV xs ys i = (k : Int)) : visB xs ys k i i = false := by
  unfold visB
  rw [decide_eq_false (by omega)]
  simp
theorem vis_take (ho : ownV xs ys i = (k : Int)) (j : Nat) : visB xs ys k (i + 1) j = (decide (j = i) || visB xs ys k i j) := by
  unfold visB
  by_cases e : j = i
  · subst e
    rw [decide_eq_true ho, decide_eq_true (show j < j + 1 by omega)]
    simp
  · rw [decide_eq_false e, show decide (j < i + 1) = decide (j < i) from decide_eq_decide.2 (by omega)]
    simp
theorem outL_take (ho : ownV xs ys i = (k : Int)) : outL xs ys k (i + 1) = (outL xs ys k i).set i (uV xs ys i) := by
  refine List.ext_getElem (by simp [outL]) fun j h1 h2 => ?_
  rw [outL_at h1, vis_take ho, List.getElem_set]
  by_cases e : i = j
  · subst e
    simp
  · rw [if_neg e, outL_at, decide_eq_false (fun h => e h.symm)]
    rfl
theorem donL_take (ho : ownV xs ys i = (k : Int)) : donL xs ys k (i + 1) = (donL xs ys k i).set i true := by
  refine List.ext_getElem (by simp [donL]) fun j h1 h2 => ?_
  rw [donL_at h1, vis_take ho, List.getElem_set]
  by_cases e : i = j
  · subst e
    simp
  · rw [if_neg e, donL_at, decide_eq_false (fun h => e h.symm)]
    rfl
theorem vis_next {j : Nat} (hj : j < xs.length) : visB xs ys k xs.length j = visB xs ys (k + 1) 0 j := by
  unfold visB
  rw [decide_eq_true hj, decide_eq_false (Nat.not_lt_zero j), Bool.and_true, Bool.and_false, Bool.or_false]
  by_cases e : ownV xs ys j < (k : Int)
  · rw [decide_eq_true e, decide_eq_true (show ownV xs ys j < ((k + 1 : Nat) : Int) by omega)]
    rfl
  · rw [decide_eq_false e, Bool.false_or]
    exact decide_eq_decide.2 (by omega)
theorem outL_next : outL xs ys k xs.length = outL xs ys (k + 1) 0 := by
  refine List.ext_getElem (by simp [outL]) fun j h1 h2 => ?_
  rw [outL_at h1, outL_at h2, vis_next (by simpa [outL] using h1)]
theorem donL_next : donL xs ys k xs.length = donL xs ys (k + 1) 0 := by
  refine List.ext_getElem (by simp [donL]) fun j h1 h2 => ?_
  rw [donL_at h1, donL_at h2, vis_next (by simpa [donL] using h1)]
theorem outL_end (h : okPr xs ys) : outL xs ys ys.length 0 = (List.range xs.length).map (uV xs ys) := by
  refine List.ext_getElem (by simp [outL]) fun j h1 h2 => ?_
  have hj : j < xs.length := by simpa [outL] using h1
  rw [outL_at h1]
  unfold visB
  rw [decide_eq_true (ownV_bd h hj).2]
  simp
def accU (xs : List Nd) (ys : List As) (l : List Int) : Bool := l.all fun a => uV xs ys a.toNat
theorem accU_step (l : List Int) (p : Nat) (h : p < l.length) : accU xs ys (l.take (p + 1)) = (accU xs ys (l.take p) && uV xs ys (l[p]).toNat) := by
  unfold accU
  rw [List.take_succ_eq_append_getElem h, List.all_append]
  simp
end
/-- which nodes are uniform, in a row of the call's own -/
def UniOut (xs : List Nd) (ys : List As) (w : World) (e : Ending) (w' : World) : Prop :=
  ∃ (A : Option Addr), e = .returned (.slice A xs.length xs.length) ∧ Row BoolV w' w'.heap.size A ((List.range xs.length).map (uV xs ys)) ∧ Below w.heap.size w w'

end

section
open Go.RowKit

open Classical in
/-- what IsUniform answers -/
noncomputable def uniP (xs : List Nd) (ys : List As) (i : Int) : Bool := if chkP xs ys = (0, 0) ∧ 0 ≤ i ∧ i < xs.length then uV xs ys i.toNat else false
/-- the uniform nodes among the first k -/
noncomputable def cntU (xs : List Nd) (ys : List As) (k : Nat) : Nat := (List.range k).countP fun i : Nat => uniP xs ys (i : Int)
theorem cntU_step (xs : List Nd) (ys : List As) (k : Nat) : cntU xs ys (k + 1) = cntU xs ys k + (if uniP xs ys (k : Int) = true then 1 else 0) := by
  unfold cntU
  rw [List.range_succ, List.countP_append]
  simp
theorem cntU_le (xs : List Nd) (ys : List As) (k : Nat) : cntU xs ys k ≤ k := by
  unfold cntU
  have := List.countP_le_length (p := fun i : Nat => uniP xs ys (i : Int)) (l := List.range k)
  simpa using this
theorem chk_zero {xs : List Nd} {ys : List As} (h : (chkP xs ys).1 = 0) : chkP xs ys = (0, 0) := by
  unfold chkP at h ⊢
  split at h
  · rename_i hok
    rw [if_pos hok]
    unfold chkV at h ⊢
    split at h
    · simp at h
    split at h
    · simp at h
    split at h
    · simp at h
    split at h
    · simp at h
    · rename_i h4
      rw [if_neg h4]
  · simp at h
theorem uniP_no {xs : List Nd} {ys : List As} (h : chkP xs ys ≠ (0, 0)) (i : Int) : uniP xs ys i = false := by
  unfold uniP
  rw [if_neg (fun k => h k.1)]


end
end Go.Proofs.Ytlcnjiephbhdaaa
