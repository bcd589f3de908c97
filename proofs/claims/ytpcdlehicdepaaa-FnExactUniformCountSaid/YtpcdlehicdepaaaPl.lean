/- Marks on programs that a call made. -/
import Derived.Test.YtpcdlehicdepaaaProg
import Derived.Test.YtpcdlehicdepaaaInts
import Derived.Test.YtpcdlehicdepaaaVbox
import Derived.Test.YtpcdlehicdepaaaHeld
import Derived.Test.YtpcdlehicdepaaaMem
import Derived.Test.YtpcdlehicdepaaaFlat
import Derived.Test.YtpcdlehicdepaaaRowC
import Derived.Test.YtpcdlehicdepaaaKS
import Derived.Test.YtpcdlehicdepaaaStrS
import Derived.Test.YtpcdlehicdepaaaIntS
import Derived.Test.YtpcdlehicdepaaaSS
import Derived.Test.YtpcdlehicdepaaaPg
import Derived.Test.YtpcdlehicdepaaaPh
import Derived.Test.YtpcdlehicdepaaaPi
import Derived.Test.YtpcdlehicdepaaaPk
import Derived.WalkKit
import Derived.WalkSpells
import Derived.WalkLawsBesides
import Derived.Lib.Hide
import Derived.Deep.RegionHeld3
import Derived.Deep.QuietTactic
import Derived.BigQuiet
import Derived.Handy
import Derived.Deep.DeepCutAuto
namespace Go.Proofs.Ytpcdlehicdepaaa
open Go.RowKit

theorem own_keepN {w w' : World} {base m n : Nat} {e : TypeId} {v : Value} {xs : List Value} (h : w.ownsRow base e m v n xs) (hk : ∀ b, v.ownBlock = some b → w'.heap[b]? = w.heap[b]?) : w'.ownsRow base e m v n xs := by
  refine ⟨h.1, ?_⟩
  rcases h.2 with h1 | ⟨g, cap, cur, e, hb, hg, r⟩
  · exact .inl h1
  · exact .inr ⟨g, cap, cur, e, hb, (hk g (by rw [e]; rfl)).trans hg, r⟩
theorem blk_of {A : Option Addr} {n c b : Nat} (h : (Value.slice A n c).ownBlock = some b) : blk A = some b := by
  rcases A with _ | x
  · cases h
  · exact h
theorem of_blk {A : Option Addr} {n c b : Nat} (h : blk A = some b) : (Value.slice A n c).ownBlock = some b := by
  rcases A with _ | x
  · cases h
  · exact h
def mk1A (k : Nat) : As := (markP k, ((k + 1 : Nat) : Int))
def asI (k j : Nat) (ys : List As) : List As := ys.mapIdx (fun i v => if i < j then mk1A (k + 2 * i) else v)
theorem asI_len (k j : Nat) (ys : List As) : (asI k j ys).length = ys.length := by simp [asI]
theorem asI_at (k j : Nat) (ys : List As) (i : Nat) (h : i < (asI k j ys).length) (h' : i < ys.length) : (asI k j ys)[i] = if i < j then mk1A (k + 2 * i) else ys[i] := by simp [asI]
theorem asI_zero (k : Nat) (ys : List As) : asI k 0 ys = ys := by
  apply List.ext_getElem
  · simp [asI]
  · intro i h1 h2
    simp [asI]
theorem asI_step (k j : Nat) (ys : List As) : (asI k j ys).set j (mk1A (k + 2 * j)) = asI k (j + 1) ys := by
  apply List.ext_getElem
  · simp [asI]
  · intro i h1 h2
    have hi : i < ys.length := by simpa [asI] using h2
    rw [List.getElem_set, asI_at k (j + 1) ys i h2 hi]
    by_cases e : j = i
    · subst e
      simp
    · rw [if_neg e, asI_at k j ys i (by simpa [asI] using hi) hi]
      by_cases e2 : i < j
      · rw [if_pos e2, if_pos (by omega)]
      · rw [if_neg e2, if_neg (by omega)]


/-- a program that a call made, its parts wherever they lie -/
def ProgG (Q : World → Option Addr × Nat → List Int → Prop) (w : World) (base : Nat) (A : Option Addr) (c : Nat) (A' : Option Addr) (c' : Nat) (ps : List PN) (ys : List As) : Prop :=
  NdG Q w base A c ps ∧ w.ownsRow base 58 2 (.slice A' ys.length c') ys.length (ys.flatMap asg) ∧ Apart A A' ∧ ∀ i (h : i < ps.length), Apart (ps[i]).1.1 A'
def SP (A A' : Option Addr) (ps : List PN) (b : Nat) : Prop := SN A ps b ∨ blk A' = some b


end Go.Proofs.Ytpcdlehicdepaaa
