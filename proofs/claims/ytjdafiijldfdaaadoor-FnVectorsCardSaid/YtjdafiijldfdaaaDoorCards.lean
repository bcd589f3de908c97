/-
  DERIVED. GIVEN WITH THE SEED: THE CARDS: each row of YtjdafiijldfdaaaDoorRows.lean that lists a variable, with what it lists TIED to the program's text (the seventh form; the later family's looks); each row that meets fmt, with fmt's text TOLD by the authors' own Lean function (tested against real Go, not proved from fmt's source: count such statements apart). THE CARD IS WHAT COUNTS. Prove the row's statement (the work); the ties are given (YtjdafiijldfdaaaDoorTie.lean); close each card by the builder's one call (the guide's Derived/Test/ToyasCard.lean, 'card_holds'). Laid BY PROGRAM, IN A SANDBOX (cutbox-door.mjs). By AI agents, Wed Nov 11 2026. No macro, syntax, notation, axiom, sorry.
-/
import Derived.Test.YtjdafiijldfdaaaDoorRows
import GoSem.ClaimSeven
namespace Go.Proofs.YtjdafiijldfdaaaDoor
namespace Rows

/-- THE TIED CARD OF 'laws.FnExactFormatVec'. -/
def fnExactFormatVecCard : Claim7 := { stood := { row := fnExactFormatVecRow, standIns := [], harness := (true, "304d759aea1d532271ce63d9a6a2bc4e40932f29de2d259b5d3d8feabee8a866"), looks := true }, kinds := [], alts := [], laidByText := true, laidKinds := [.data, .data, .data], laidTests := true, laidLooks := .later }
def FnExactFormatVecCardSaid : Prop := Claim7.holds Tryd.pinned (.plain (OpenSpec.ofChange fnExactFormatVecSpec)) fnExactFormatVecCard

/-- THE TIED CARD OF 'laws.FnExactParseVec'. -/
def fnExactParseVecCard : Claim7 := { stood := { row := fnExactParseVecRow, standIns := [], harness := (true, "304d759aea1d532271ce63d9a6a2bc4e40932f29de2d259b5d3d8feabee8a866"), looks := true }, kinds := [], alts := [], laidByText := true, laidKinds := [.data, .data, .data, .sentinel, .sentinel], laidTests := true, laidLooks := .later }
def FnExactParseVecCardSaid : Prop := Claim7.holds Tryd.pinned (.plain (OpenSpec.ofChange fnExactParseVecSpec)) fnExactParseVecCard

/-- THE TIED CARD OF 'laws.FnVectors'. -/
def fnVectorsCard : Claim7 := { stood := { row := fnVectorsRow, standIns := [], harness := (true, "304d759aea1d532271ce63d9a6a2bc4e40932f29de2d259b5d3d8feabee8a866"), looks := true }, kinds := [], alts := [], laidByText := true, laidKinds := [.data, .data, .data, .sentinel, .sentinel], laidTests := true, laidLooks := .later }
def FnVectorsCardSaid : Prop := Claim7.holds Tryd.pinned (.plain (OpenSpec.ofChange fnVectorsSpec)) fnVectorsCard

/-- THE SECOND FORM's CARD OF 'laws.FnExactFormatVec'. -/
def fnExactFormatVecUptoCard : Claim7 := { stood := { row := fnExactFormatVecUptoRow, standIns := [], harness := (true, "304d759aea1d532271ce63d9a6a2bc4e40932f29de2d259b5d3d8feabee8a866"), looks := true }, kinds := [], alts := [], laidByText := true, laidKinds := [.data, .data, .data], laidTests := true, laidLooks := .later }
def FnExactFormatVecUptoCardSaid : Prop := Claim7.holds Tryd.pinned (.plain (OpenSpec.upto fnExactFormatVecSpec)) fnExactFormatVecUptoCard

/-- THE SECOND FORM's CARD OF 'laws.FnExactParseVec'. -/
def fnExactParseVecUptoCard : Claim7 := { stood := { row := fnExactParseVecUptoRow, standIns := [], harness := (true, "304d759aea1d532271ce63d9a6a2bc4e40932f29de2d259b5d3d8feabee8a866"), looks := true }, kinds := [], alts := [], laidByText := true, laidKinds := [.data, .data, .data, .sentinel, .sentinel], laidTests := true, laidLooks := .later }
def FnExactParseVecUptoCardSaid : Prop := Claim7.holds Tryd.pinned (.plain (OpenSpec.upto fnExactParseVecSpec)) fnExactParseVecUptoCard

/-- THE SECOND FORM's CARD OF 'laws.FnVectors'. -/
def fnVectorsUptoCard : Claim7 := { stood := { row := fnVectorsUptoRow, standIns := [], harness := (true, "304d759aea1d532271ce63d9a6a2bc4e40932f29de2d259b5d3d8feabee8a866"), looks := true }, kinds := [], alts := [], laidByText := true, laidKinds := [.data, .data, .data, .sentinel, .sentinel], laidTests := true, laidLooks := .later }
def FnVectorsUptoCardSaid : Prop := Claim7.holds Tryd.pinned (.plain (OpenSpec.upto fnVectorsSpec)) fnVectorsUptoCard
end Rows
end Go.Proofs.YtjdafiijldfdaaaDoor
