/- Textures of the model: HalfTexture. -/
import Derived.Test.YtjbpfgaakkkaaaaDoorProg
import Derived.Test.YtjbpfgaakkkaaaaDoorInts
import Derived.Test.YtjbpfgaakkkaaaaDoorVbox
import Derived.Test.YtjbpfgaakkkaaaaDoorHeld
import Derived.Test.YtjbpfgaakkkaaaaDoorMem
import Derived.Test.YtjbpfgaakkkaaaaDoorFlat
import Derived.Test.YtjbpfgaakkkaaaaDoorRowC
import Derived.Test.YtjbpfgaakkkaaaaDoorKS
import Derived.Test.YtjbpfgaakkkaaaaDoorStrS
import Derived.Test.YtjbpfgaakkkaaaaDoorIntS
import Derived.Test.YtjbpfgaakkkaaaaDoorSS
import Derived.Test.YtjbpfgaakkkaaaaDoorVi
import Derived.Test.YtjbpfgaakkkaaaaDoorVa
import Derived.Test.YtjbpfgaakkkaaaaDoorVb
import Derived.Test.YtjbpfgaakkkaaaaDoorVc
import Derived.Test.YtjbpfgaakkkaaaaDoorVd
import Derived.WalkKit
import Derived.WalkSpells
import Derived.WalkLawsBesides
import Derived.Lib.Hide
import Derived.Deep.RegionHeld3
import Derived.Deep.QuietTactic
import Derived.BigQuiet
import Derived.Handy
import Derived.Deep.DeepCutAuto
import Derived.OwnWalk
namespace Go.Proofs.YtjbpfgaakkkaaaaDoor
open Go.RowKit

theorem Held.grownX {w W W' : World} {row : Option Nat} {bs : List (Nat × List Value)} (h : Held w W bs) (hg : W.grownBy W' row) (hk : ∀ g, row = some g → w.heap.size ≤ g) (hne : ∀ p ∈ bs, some p.1 ≠ row) : Held w W' bs :=
  ⟨h.1.grown hg h.1.size hk, fun i k vs e => (h.2 i k vs e).keep fun hl => hg.block k hl (hne (k, vs) (List.mem_of_getElem? e))⟩
/-- a texture that a call made, and true -/
def TxMade (L : Int) (ts : List Int) (w : World) (e : Ending) (w' : World) : Prop :=
  ∃ (A : Option Addr) (c : Nat), e = .returned (.tuple #[txv L A ts.length c, .bool true]) ∧ w'.ownsRow w.heap.size 3 1 (.slice A ts.length c) ts.length (ts.map I64) ∧ Below w.heap.size w w'
/-- no texture -/
def TxNone (w : World) (e : Ending) (w' : World) : Prop := e = .returned (.tuple #[txv 0 none 0 0, .bool false]) ∧ Below w.heap.size w w'
/-- where a texture has a next level -/
def okH (L : Int) (ts : List Int) : Bool := okX L ts && decide (1 ≤ L)


end Go.Proofs.YtjbpfgaakkkaaaaDoor
