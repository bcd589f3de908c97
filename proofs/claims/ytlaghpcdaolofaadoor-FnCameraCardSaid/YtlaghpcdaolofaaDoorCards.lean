/-
  DERIVED. GIVEN WITH THE SEED: THE CARDS: each row of YtlaghpcdaolofaaDoorRows.lean that lists a variable, with what it lists TIED to the program's text (the seventh form; the later family's looks); each row that meets fmt, with fmt's text TOLD by the authors' own Lean function (tested against real Go, not proved from fmt's source: count such statements apart). THE CARD IS WHAT COUNTS. Prove the row's statement (the work); the ties are given (YtlaghpcdaolofaaDoorTie.lean); close each card by the builder's one call (the guide's Derived/Test/ToyasCard.lean, 'card_holds'). Laid BY PROGRAM, IN A SANDBOX (cutbox-door.mjs). By AI agents, Wed Nov 11 2026. No macro, syntax, notation, axiom, sorry.
-/
import Derived.Test.YtlaghpcdaolofaaDoorRows
import GoSem.ClaimSeven
namespace Go.Proofs.YtlaghpcdaolofaaDoor
namespace Rows

/-- THE TIED CARD OF 'laws.FnCamera'. -/
def fnCameraCard : Claim7 := { stood := { row := fnCameraRow, standIns := [], harness := (true, "50e785893081e1253e508dd2ddc465c48e7cd8dfab2415fe858954859e9f7fb0"), looks := true }, kinds := [], alts := [], laidByText := true, laidKinds := [.data, .data, .data, .sentinel, .sentinel], laidTests := true, laidLooks := .later }
def FnCameraCardSaid : Prop := Claim7.holds Tryd.pinned (.plain (OpenSpec.ofChange fnCameraSpec)) fnCameraCard

/-- THE TIED CARD OF 'laws.FnExactFormatCamera'. -/
def fnExactFormatCameraCard : Claim7 := { stood := { row := fnExactFormatCameraRow, standIns := [], harness := (true, "50e785893081e1253e508dd2ddc465c48e7cd8dfab2415fe858954859e9f7fb0"), looks := true }, kinds := [], alts := [], laidByText := true, laidKinds := [.data, .data, .data], laidTests := true, laidLooks := .later }
def FnExactFormatCameraCardSaid : Prop := Claim7.holds Tryd.pinned (.plain (OpenSpec.ofChange fnExactFormatCameraSpec)) fnExactFormatCameraCard

/-- THE TIED CARD OF 'laws.FnExactParseCamera'. -/
def fnExactParseCameraCard : Claim7 := { stood := { row := fnExactParseCameraRow, standIns := [], harness := (true, "50e785893081e1253e508dd2ddc465c48e7cd8dfab2415fe858954859e9f7fb0"), looks := true }, kinds := [], alts := [], laidByText := true, laidKinds := [.data, .data, .data, .sentinel, .sentinel], laidTests := true, laidLooks := .later }
def FnExactParseCameraCardSaid : Prop := Claim7.holds Tryd.pinned (.plain (OpenSpec.ofChange fnExactParseCameraSpec)) fnExactParseCameraCard

/-- THE SECOND FORM's CARD OF 'laws.FnCamera'. -/
def fnCameraUptoCard : Claim7 := { stood := { row := fnCameraUptoRow, standIns := [], harness := (true, "50e785893081e1253e508dd2ddc465c48e7cd8dfab2415fe858954859e9f7fb0"), looks := true }, kinds := [], alts := [], laidByText := true, laidKinds := [.data, .data, .data, .sentinel, .sentinel], laidTests := true, laidLooks := .later }
def FnCameraUptoCardSaid : Prop := Claim7.holds Tryd.pinned (.plain (OpenSpec.upto fnCameraSpec)) fnCameraUptoCard

/-- THE SECOND FORM's CARD OF 'laws.FnExactFormatCamera'. -/
def fnExactFormatCameraUptoCard : Claim7 := { stood := { row := fnExactFormatCameraUptoRow, standIns := [], harness := (true, "50e785893081e1253e508dd2ddc465c48e7cd8dfab2415fe858954859e9f7fb0"), looks := true }, kinds := [], alts := [], laidByText := true, laidKinds := [.data, .data, .data], laidTests := true, laidLooks := .later }
def FnExactFormatCameraUptoCardSaid : Prop := Claim7.holds Tryd.pinned (.plain (OpenSpec.upto fnExactFormatCameraSpec)) fnExactFormatCameraUptoCard

/-- THE SECOND FORM's CARD OF 'laws.FnExactParseCamera'. -/
def fnExactParseCameraUptoCard : Claim7 := { stood := { row := fnExactParseCameraUptoRow, standIns := [], harness := (true, "50e785893081e1253e508dd2ddc465c48e7cd8dfab2415fe858954859e9f7fb0"), looks := true }, kinds := [], alts := [], laidByText := true, laidKinds := [.data, .data, .data, .sentinel, .sentinel], laidTests := true, laidLooks := .later }
def FnExactParseCameraUptoCardSaid : Prop := Claim7.holds Tryd.pinned (.plain (OpenSpec.upto fnExactParseCameraSpec)) fnExactParseCameraUptoCard
end Rows
end Go.Proofs.YtlaghpcdaolofaaDoor
