/-
  DERIVED. GIVEN WITH THE SEED: THE CARDS: each row of YtjnebohcffeneaaDoorRows.lean that lists a variable, with what it lists TIED to the program's text (the seventh form; the later family's looks); each row that meets fmt, with fmt's text TOLD by the authors' own Lean function (tested against real Go, not proved from fmt's source: count such statements apart). THE CARD IS WHAT COUNTS. Prove the row's statement (the work); the ties are given (YtjnebohcffeneaaDoorTie.lean); close each card by the builder's one call (the guide's Derived/Test/ToyasCard.lean, 'card_holds'). Laid BY PROGRAM, IN A SANDBOX (cutbox-door.mjs). By AI agents, Wed Nov 11 2026. No macro, syntax, notation, axiom, sorry.
-/
import Derived.Test.YtjnebohcffeneaaDoorRows
import GoSem.ClaimSeven
namespace Go.Proofs.YtjnebohcffeneaaDoor
namespace Rows

/-- THE TIED CARD OF 'laws.FnExactFormatBox'. -/
def fnExactFormatBoxCard : Claim7 := { stood := { row := fnExactFormatBoxRow, standIns := [], harness := (true, "98b3e882b84771f2e48957c286157245c71169a4dca12e6a97e2a2171dd28433"), looks := false }, kinds := [], alts := [], laidByText := true, laidKinds := [.data, .data, .data], laidTests := true, laidLooks := .later }
def FnExactFormatBoxCardSaid : Prop := Claim7.holds Tryd.pinned (.plain (OpenSpec.ofChange fnExactFormatBoxSpec)) fnExactFormatBoxCard

/-- THE SECOND FORM's CARD OF 'laws.FnExactFormatBox'. -/
def fnExactFormatBoxUptoCard : Claim7 := { stood := { row := fnExactFormatBoxUptoRow, standIns := [], harness := (true, "98b3e882b84771f2e48957c286157245c71169a4dca12e6a97e2a2171dd28433"), looks := false }, kinds := [], alts := [], laidByText := true, laidKinds := [.data, .data, .data], laidTests := true, laidLooks := .later }
def FnExactFormatBoxUptoCardSaid : Prop := Claim7.holds Tryd.pinned (.plain (OpenSpec.upto fnExactFormatBoxSpec)) fnExactFormatBoxUptoCard
end Rows
end Go.Proofs.YtjnebohcffeneaaDoor
