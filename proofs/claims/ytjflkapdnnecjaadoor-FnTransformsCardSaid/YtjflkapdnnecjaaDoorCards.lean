/-
  DERIVED. GIVEN WITH THE SEED: THE CARDS: each row of YtjflkapdnnecjaaDoorRows.lean that lists a variable, with what it lists TIED to the program's text (the seventh form; the later family's looks); each row that meets fmt, with fmt's text TOLD by the authors' own Lean function (tested against real Go, not proved from fmt's source: count such statements apart). THE CARD IS WHAT COUNTS. Prove the row's statement (the work); the ties are given (YtjflkapdnnecjaaDoorTie.lean); close each card by the builder's one call (the guide's Derived/Test/ToyasCard.lean, 'card_holds'). Laid BY PROGRAM, IN A SANDBOX (cutbox-door.mjs). By AI agents, Wed Nov 11 2026. No macro, syntax, notation, axiom, sorry.
-/
import Derived.Test.YtjflkapdnnecjaaDoorRows
import GoSem.ClaimSeven
namespace Go.Proofs.YtjflkapdnnecjaaDoor
namespace Rows

/-- THE TIED CARD OF 'laws.FnExactParseTransform'. -/
def fnExactParseTransformCard : Claim7 := { stood := { row := fnExactParseTransformRow, standIns := [], harness := (true, "293a56ff3b2a549cea96066804fc16f5dd16543f4e8b9a266e54cc1ddea33488"), looks := true }, kinds := [], alts := [], laidByText := true, laidKinds := [.data, .data, .data, .sentinel, .sentinel], laidTests := true, laidLooks := .later }
def FnExactParseTransformCardSaid : Prop := Claim7.holds Tryd.pinned (.plain (OpenSpec.ofChange fnExactParseTransformSpec)) fnExactParseTransformCard

/-- THE TIED CARD OF 'laws.FnTransforms'. -/
def fnTransformsCard : Claim7 := { stood := { row := fnTransformsRow, standIns := [], harness := (true, "293a56ff3b2a549cea96066804fc16f5dd16543f4e8b9a266e54cc1ddea33488"), looks := true }, kinds := [], alts := [], laidByText := true, laidKinds := [.data, .data, .data, .sentinel, .sentinel], laidTests := true, laidLooks := .later }
def FnTransformsCardSaid : Prop := Claim7.holds Tryd.pinned (.plain (OpenSpec.ofChange fnTransformsSpec)) fnTransformsCard

/-- THE TIED CARD OF 'laws.FnPatches'. -/
def fnPatchesCard : Claim7 := { stood := { row := fnPatchesRow, standIns := [], harness := (true, "293a56ff3b2a549cea96066804fc16f5dd16543f4e8b9a266e54cc1ddea33488"), looks := true }, kinds := [], alts := [], laidByText := true, laidKinds := [.data, .data, .data, .sentinel, .sentinel], laidTests := true, laidLooks := .later }
def FnPatchesCardSaid : Prop := Claim7.holds Tryd.pinned (.plain (OpenSpec.ofChange fnPatchesSpec)) fnPatchesCard

/-- THE SECOND FORM's CARD OF 'laws.FnExactParseTransform'. -/
def fnExactParseTransformUptoCard : Claim7 := { stood := { row := fnExactParseTransformUptoRow, standIns := [], harness := (true, "293a56ff3b2a549cea96066804fc16f5dd16543f4e8b9a266e54cc1ddea33488"), looks := true }, kinds := [], alts := [], laidByText := true, laidKinds := [.data, .data, .data, .sentinel, .sentinel], laidTests := true, laidLooks := .later }
def FnExactParseTransformUptoCardSaid : Prop := Claim7.holds Tryd.pinned (.plain (OpenSpec.upto fnExactParseTransformSpec)) fnExactParseTransformUptoCard

/-- THE SECOND FORM's CARD OF 'laws.FnTransforms'. -/
def fnTransformsUptoCard : Claim7 := { stood := { row := fnTransformsUptoRow, standIns := [], harness := (true, "293a56ff3b2a549cea96066804fc16f5dd16543f4e8b9a266e54cc1ddea33488"), looks := true }, kinds := [], alts := [], laidByText := true, laidKinds := [.data, .data, .data, .sentinel, .sentinel], laidTests := true, laidLooks := .later }
def FnTransformsUptoCardSaid : Prop := Claim7.holds Tryd.pinned (.plain (OpenSpec.upto fnTransformsSpec)) fnTransformsUptoCard

/-- THE SECOND FORM's CARD OF 'laws.FnPatches'. -/
def fnPatchesUptoCard : Claim7 := { stood := { row := fnPatchesUptoRow, standIns := [], harness := (true, "293a56ff3b2a549cea96066804fc16f5dd16543f4e8b9a266e54cc1ddea33488"), looks := true }, kinds := [], alts := [], laidByText := true, laidKinds := [.data, .data, .data, .sentinel, .sentinel], laidTests := true, laidLooks := .later }
def FnPatchesUptoCardSaid : Prop := Claim7.holds Tryd.pinned (.plain (OpenSpec.upto fnPatchesSpec)) fnPatchesUptoCard
end Rows
end Go.Proofs.YtjflkapdnnecjaaDoor
