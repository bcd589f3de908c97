/-
  DERIVED. GIVEN WITH THE SEED: THE CARDS: each row of YtjbpfgaakkkaaaaDoorRows.lean that lists a variable, with what it lists TIED to the program's text (the seventh form; the later family's looks); each row that meets fmt, with fmt's text TOLD by the authors' own Lean function (tested against real Go, not proved from fmt's source: count such statements apart). THE CARD IS WHAT COUNTS. Prove the row's statement (the work); the ties are given (YtjbpfgaakkkaaaaDoorTie.lean); close each card by the builder's one call (the guide's Derived/Test/ToyasCard.lean, 'card_holds'). Laid BY PROGRAM, IN A SANDBOX (cutbox-door.mjs). By AI agents, Wed Nov 11 2026. No macro, syntax, notation, axiom, sorry.
-/
import Derived.Test.YtjbpfgaakkkaaaaDoorRows
import GoSem.ClaimSeven
namespace Go.Proofs.YtjbpfgaakkkaaaaDoor
namespace Rows

/-- THE TIED CARD OF 'laws.FnTexture'. -/
def fnTextureCard : Claim7 := { stood := { row := fnTextureRow, standIns := [], harness := (true, "69639c6bbcc1b9185f88236e05013a5e750a9e08e8f0bea54841c689c31dad72"), looks := true }, kinds := [], alts := [], laidByText := true, laidKinds := [.data, .data, .data, .sentinel, .sentinel], laidTests := true, laidLooks := .later }
def FnTextureCardSaid : Prop := Claim7.holds Tryd.pinned (.plain (OpenSpec.ofChange fnTextureSpec)) fnTextureCard

/-- THE TIED CARD OF 'laws.FnExactFormatTexture'. -/
def fnExactFormatTextureCard : Claim7 := { stood := { row := fnExactFormatTextureRow, standIns := [], harness := (true, "69639c6bbcc1b9185f88236e05013a5e750a9e08e8f0bea54841c689c31dad72"), looks := true }, kinds := [], alts := [], laidByText := true, laidKinds := [.data, .data, .data], laidTests := true, laidLooks := .later }
def FnExactFormatTextureCardSaid : Prop := Claim7.holds Tryd.pinned (.plain (OpenSpec.ofChange fnExactFormatTextureSpec)) fnExactFormatTextureCard

/-- THE TIED CARD OF 'laws.FnExactParseTexture'. -/
def fnExactParseTextureCard : Claim7 := { stood := { row := fnExactParseTextureRow, standIns := [], harness := (true, "69639c6bbcc1b9185f88236e05013a5e750a9e08e8f0bea54841c689c31dad72"), looks := true }, kinds := [], alts := [], laidByText := true, laidKinds := [.data, .data, .data, .sentinel, .sentinel], laidTests := true, laidLooks := .later }
def FnExactParseTextureCardSaid : Prop := Claim7.holds Tryd.pinned (.plain (OpenSpec.ofChange fnExactParseTextureSpec)) fnExactParseTextureCard

/-- THE SECOND FORM's CARD OF 'laws.FnTexture'. -/
def fnTextureUptoCard : Claim7 := { stood := { row := fnTextureUptoRow, standIns := [], harness := (true, "69639c6bbcc1b9185f88236e05013a5e750a9e08e8f0bea54841c689c31dad72"), looks := true }, kinds := [], alts := [], laidByText := true, laidKinds := [.data, .data, .data, .sentinel, .sentinel], laidTests := true, laidLooks := .later }
def FnTextureUptoCardSaid : Prop := Claim7.holds Tryd.pinned (.plain (OpenSpec.upto fnTextureSpec)) fnTextureUptoCard

/-- THE SECOND FORM's CARD OF 'laws.FnExactFormatTexture'. -/
def fnExactFormatTextureUptoCard : Claim7 := { stood := { row := fnExactFormatTextureUptoRow, standIns := [], harness := (true, "69639c6bbcc1b9185f88236e05013a5e750a9e08e8f0bea54841c689c31dad72"), looks := true }, kinds := [], alts := [], laidByText := true, laidKinds := [.data, .data, .data], laidTests := true, laidLooks := .later }
def FnExactFormatTextureUptoCardSaid : Prop := Claim7.holds Tryd.pinned (.plain (OpenSpec.upto fnExactFormatTextureSpec)) fnExactFormatTextureUptoCard

/-- THE SECOND FORM's CARD OF 'laws.FnExactParseTexture'. -/
def fnExactParseTextureUptoCard : Claim7 := { stood := { row := fnExactParseTextureUptoRow, standIns := [], harness := (true, "69639c6bbcc1b9185f88236e05013a5e750a9e08e8f0bea54841c689c31dad72"), looks := true }, kinds := [], alts := [], laidByText := true, laidKinds := [.data, .data, .data, .sentinel, .sentinel], laidTests := true, laidLooks := .later }
def FnExactParseTextureUptoCardSaid : Prop := Claim7.holds Tryd.pinned (.plain (OpenSpec.upto fnExactParseTextureSpec)) fnExactParseTextureUptoCard
end Rows
end Go.Proofs.YtjbpfgaakkkaaaaDoor
