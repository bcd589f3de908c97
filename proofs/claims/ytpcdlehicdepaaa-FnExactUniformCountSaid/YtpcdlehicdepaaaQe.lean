/- Small words for the laws on valid programs. -/
import Derived.Test.YtpcdlehicdepaaaProg
import Derived.Test.YtpcdlehicdepaaaInts
import Derived.Test.YtpcdlehicdepaaaVbox
import Derived.Test.YtpcdlehicdepaaaHeld
import Derived.Test.YtpcdlehicdepaaaMem
import Derived.Test.YtpcdlehicdepaaaFlat
import Derived.Test.YtpcdlehicdepaaaRowC
import Derived.Test.YtpcdlehicdepaaaKS
import Derived.Test.YtpcdlehicdepaaaStrS
import Derived.Test.YtpcdlehicdepaaaIntS
import Derived.Test.YtpcdlehicdepaaaSS
import Derived.Test.YtpcdlehicdepaaaPg
import Derived.Test.YtpcdlehicdepaaaPh
import Derived.Test.YtpcdlehicdepaaaIdent
import Derived.Test.YtpcdlehicdepaaaPn
import Derived.WalkKit
import Derived.WalkSpells
import Derived.WalkLawsBesides
import Derived.Lib.Hide
import Derived.Deep.RegionHeld3
import Derived.Deep.QuietTactic
import Derived.BigQuiet
import Derived.Handy
import Derived.Deep.DeepCutAuto
namespace Go.Proofs.Ytpcdlehicdepaaa
open Go.RowKit

theorem boolOut_val {p : Prop} {w : World} {e : Ending} {w' : World} (h : BoolOut p w e w') : e = .returned (.bool (@decide p (Classical.propDecidable p))) ∧ Below w.heap.size w w' := by
  obtain ⟨b, rfl, hb, hbl⟩ := h
  refine ⟨?_, hbl⟩
  cases b with
  | true => rw [@decide_eq_true p (Classical.propDecidable p) (hb.1 rfl)]
  | false => rw [@decide_eq_false p (Classical.propDecidable p) (fun h => by have := hb.2 h; cases this)]
theorem args_sz (xs : List Nd) : (argsL xs).length ≤ szN xs := by
  induction xs with
  | nil => simp [argsL, szN]
  | cons x xs ih =>
    unfold argsL at ih ⊢
    simp only [List.flatMap_cons, List.length_append, szN]
    omega
theorem nd_sz {xs : List Nd} {m : Nat} (h : szN xs ≤ m) : ∀ x ∈ xs, x.2.1.size ≤ m ∧ x.2.2.2.length ≤ m := fun x hx => by
  have := szN_mem hx
  omega
theorem as_sz {ys : List As} {m : Nat} (h : szA ys ≤ m) : ∀ y ∈ ys, y.1.size ≤ m := fun y hy => by
  have := szA_mem hy
  omega
end Go.Proofs.Ytpcdlehicdepaaa
