/- Contracts of ParseVec, in the program and in its model. -/
import Derived.Test.YtlaghpcdaolofaaDoorProg
import Derived.Test.YtlaghpcdaolofaaDoorMem
import Derived.Test.YtlaghpcdaolofaaDoorStrS
import Derived.Test.YtlaghpcdaolofaaDoorNumP
import Derived.Test.YtlaghpcdaolofaaDoorFmt
import Derived.Test.YtlaghpcdaolofaaDoorBuilder
import Derived.Test.YtlaghpcdaolofaaDoorInts
import Derived.Test.YtlaghpcdaolofaaDoorIntS
import Derived.Test.YtlaghpcdaolofaaDoorSplit
import Derived.Test.YtlaghpcdaolofaaDoorParse
import Derived.Test.YtlaghpcdaolofaaDoorFmts
import Derived.Test.YtlaghpcdaolofaaDoorParses
import Derived.Test.YtlaghpcdaolofaaDoorRound
import Derived.Test.YtlaghpcdaolofaaDoorNumsRound
import Derived.Test.YtlaghpcdaolofaaDoorVbox
import Derived.Test.YtlaghpcdaolofaaDoorVec
import Derived.Test.YtlaghpcdaolofaaDoorVlaw
import Derived.Test.YtlaghpcdaolofaaDoorFlat
import Derived.Test.YtlaghpcdaolofaaDoorVFmt
import Derived.WalkKit
import Derived.WalkSpells
import Derived.WalkLawsBesides
import Derived.Lib.Hide
import Derived.Handy
import Derived.Deep.RegionHeld3
namespace Go.Proofs.YtlaghpcdaolofaaDoor
open Go.RowKit

/-- s is what FormatVec writes of this vector -/
def VecOf (s : ByteArray) (x y z : Int) : Prop := NumsOf s [x, y, z] ∧ okB x y z = true
/-- what ParseVec leaves -/
def VecIn (s : ByteArray) (w : World) (e : Ending) (w' : World) : Prop :=
  ∃ (b : Bool) (x y z : Int), e = .returned (.tuple #[vec x y z, .bool b]) ∧ (b = true → VecOf s x y z) ∧ (b = false → (x = 0 ∧ y = 0 ∧ z = 0) ∧ ∀ p q r, ¬ VecOf s p q r) ∧ Below w.heap.size w w'
theorem vecOf_inj {s : ByteArray} {x y z p q r : Int} (h : VecOf s x y z) (h' : VecOf s p q r) : x = p ∧ y = q ∧ z = r := by
  have := nums_inj h.1 h'.1
  simpa using this
theorem not_vec {s : ByteArray} {x y z : Int} (h : NumsOf s [x, y, z]) (hk : ¬ okB x y z = true) : ∀ p q r, ¬ VecOf s p q r := fun p q r h' => by
  obtain ⟨rfl, rfl, rfl⟩ : x = p ∧ y = q ∧ z = r := by simpa using nums_inj h h'.1
  exact hk h'.2
theorem fmts_of_nums {s : ByteArray} {xs : List Int} (h : NumsOf s xs) : fmtsP xs = s := by
  rcases h with ⟨rfl, rfl⟩ | ⟨hd, hl, hi⟩
  · unfold fmtsP; rw [if_pos rfl]; rfl
  · have hn : ∀ i (h : i < xs.length), IsNum ((splitP s comma)[i]'(by omega)) xs[i] := fun i h => by
      have := hi i h
      simpa [List.getD, h, show i < (splitP s comma).length by omega] using this
    have hm : xs.map fmtP = splitP s comma := List.ext_getElem (by simpa using hl) (fun i h1 h2 => by
      rw [List.getElem_map]
      exact num_fmt (hn i (by simpa using h1)))
    have hne : xs ≠ [] := fun e => by
      subst e
      unfold splitP at hl
      simp at hl
    have hr : ∀ x ∈ xs, InR x := fun x hx => by
      obtain ⟨i, h, rfl⟩ := List.getElem_of_mem hx
      exact ⟨(hn i h).1, (hn i h).2.1⟩
    unfold fmtsP
    rw [if_neg hne, if_pos hr, hm]
    exact join_of_split 44 s
theorem nums3_ne {s : ByteArray} {x y z : Int} (h : NumsOf s [x, y, z]) : s ≠ ⟨#[]⟩ := by
  intro e
  subst e
  rcases h with ⟨_, h⟩ | ⟨_, hl, _⟩
  · cases h
  · have := parts_len ⟨#[]⟩ comma
    have h0 : (⟨#[]⟩ : ByteArray).size = 0 := rfl
    simp only [List.length_cons, List.length_nil] at hl
    omega



end Go.Proofs.YtlaghpcdaolofaaDoor
