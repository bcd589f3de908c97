/-
  DERIVED. GIVEN WITH THE SEED: THE CARDS: each row of YtjneionmliknhaaDoorRows.lean that lists a variable, with what it lists TIED to the program's text (the seventh form; the later family's looks); each row that meets fmt, with fmt's text TOLD by the authors' own Lean function (tested against real Go, not proved from fmt's source: count such statements apart). THE CARD IS WHAT COUNTS. Prove the row's statement (the work); the ties are given (YtjneionmliknhaaDoorTie.lean); close each card by the builder's one call (the guide's Derived/Test/ToyasCard.lean, 'card_holds'). Laid BY PROGRAM, IN A SANDBOX (cutbox-door.mjs). By AI agents, Wed Nov 11 2026. No macro, syntax, notation, axiom, sorry.
-/
import Derived.Test.YtjneionmliknhaaDoorRows
import GoSem.ClaimSeven
namespace Go.Proofs.YtjneionmliknhaaDoor
namespace Rows

/-- THE TIED CARD OF 'laws.FnTransforms'. -/
def fnTransformsCard : Claim7 := { stood := { row := fnTransformsRow, standIns := [], harness := (true, "375ddcb3f7d3ae11ee6f612438640b9694ee9a7ff728eb50ed047e6fe3ceb197"), looks := true }, kinds := [], alts := [], laidByText := true, laidKinds := [.data, .data, .data, .sentinel, .sentinel], laidTests := true, laidLooks := .later }
def FnTransformsCardSaid : Prop := Claim7.holds Tryd.pinned (.plain (OpenSpec.ofChange fnTransformsSpec)) fnTransformsCard

/-- THE TIED CARD OF 'laws.FnExactFormatTransform'. -/
def fnExactFormatTransformCard : Claim7 := { stood := { row := fnExactFormatTransformRow, standIns := [], harness := (true, "375ddcb3f7d3ae11ee6f612438640b9694ee9a7ff728eb50ed047e6fe3ceb197"), looks := true }, kinds := [], alts := [], laidByText := true, laidKinds := [.data, .data, .data], laidTests := true, laidLooks := .later }
def FnExactFormatTransformCardSaid : Prop := Claim7.holds Tryd.pinned (.plain (OpenSpec.ofChange fnExactFormatTransformSpec)) fnExactFormatTransformCard

/-- THE TIED CARD OF 'laws.FnExactParseTransform'. -/
def fnExactParseTransformCard : Claim7 := { stood := { row := fnExactParseTransformRow, standIns := [], harness := (true, "375ddcb3f7d3ae11ee6f612438640b9694ee9a7ff728eb50ed047e6fe3ceb197"), looks := true }, kinds := [], alts := [], laidByText := true, laidKinds := [.data, .data, .data, .sentinel, .sentinel], laidTests := true, laidLooks := .later }
def FnExactParseTransformCardSaid : Prop := Claim7.holds Tryd.pinned (.plain (OpenSpec.ofChange fnExactParseTransformSpec)) fnExactParseTransformCard

/-- THE SECOND FORM's CARD OF 'laws.FnTransforms'. -/
def fnTransformsUptoCard : Claim7 := { stood := { row := fnTransformsUptoRow, standIns := [], harness := (true, "375ddcb3f7d3ae11ee6f612438640b9694ee9a7ff728eb50ed047e6fe3ceb197"), looks := true }, kinds := [], alts := [], laidByText := true, laidKinds := [.data, .data, .data, .sentinel, .sentinel], laidTests := true, laidLooks := .later }
def FnTransformsUptoCardSaid : Prop := Claim7.holds Tryd.pinned (.plain (OpenSpec.upto fnTransformsSpec)) fnTransformsUptoCard

/-- THE SECOND FORM's CARD OF 'laws.FnExactFormatTransform'. -/
def fnExactFormatTransformUptoCard : Claim7 := { stood := { row := fnExactFormatTransformUptoRow, standIns := [], harness := (true, "375ddcb3f7d3ae11ee6f612438640b9694ee9a7ff728eb50ed047e6fe3ceb197"), looks := true }, kinds := [], alts := [], laidByText := true, laidKinds := [.data, .data, .data], laidTests := true, laidLooks := .later }
def FnExactFormatTransformUptoCardSaid : Prop := Claim7.holds Tryd.pinned (.plain (OpenSpec.upto fnExactFormatTransformSpec)) fnExactFormatTransformUptoCard

/-- THE SECOND FORM's CARD OF 'laws.FnExactParseTransform'. -/
def fnExactParseTransformUptoCard : Claim7 := { stood := { row := fnExactParseTransformUptoRow, standIns := [], harness := (true, "375ddcb3f7d3ae11ee6f612438640b9694ee9a7ff728eb50ed047e6fe3ceb197"), looks := true }, kinds := [], alts := [], laidByText := true, laidKinds := [.data, .data, .data, .sentinel, .sentinel], laidTests := true, laidLooks := .later }
def FnExactParseTransformUptoCardSaid : Prop := Claim7.holds Tryd.pinned (.plain (OpenSpec.upto fnExactParseTransformSpec)) fnExactParseTransformUptoCard
end Rows
end Go.Proofs.YtjneionmliknhaaDoor
