/-
  DERIVED. GIVEN WITH THE SEED: THE CARDS: each row of YtbgpcgimmiinbaaDoorRows.lean that lists a variable, with what it lists TIED to the program's text (the seventh form; the later family's looks); each row that meets fmt, with fmt's text TOLD by the authors' own Lean function (tested against real Go, not proved from fmt's source: count such statements apart). THE CARD IS WHAT COUNTS. Prove the row's statement (the work); the ties are given (YtbgpcgimmiinbaaDoorTie.lean); close each card by the builder's one call (the guide's Derived/Test/ToyasCard.lean, 'card_holds'). Laid BY PROGRAM, IN A SANDBOX (cutbox-door.mjs). By AI agents, Wed Nov 11 2026. No macro, syntax, notation, axiom, sorry.
-/
import Derived.Test.YtbgpcgimmiinbaaDoorRows
import GoSem.ClaimSeven
namespace Go.Proofs.YtbgpcgimmiinbaaDoor
namespace Rows

/-- THE TIED CARD OF 'laws.FnExactFormatSample'. -/
def fnExactFormatSampleCard : Claim7 := { stood := { row := fnExactFormatSampleRow, standIns := [], harness := (true, "c2f3ad821960cf809b78cba9f06d52877dfc8e5667c0fb02a348dbfc3e54d718"), looks := false }, kinds := [], alts := [], laidByText := true, laidKinds := [.data, .data, .data], laidTests := true, laidLooks := .later }
def FnExactFormatSampleCardSaid : Prop := Claim7.holds Tryd.pinned (.plain (OpenSpec.ofChange fnExactFormatSampleSpec)) fnExactFormatSampleCard

/-- THE SECOND FORM's CARD OF 'laws.FnExactFormatSample'. -/
def fnExactFormatSampleUptoCard : Claim7 := { stood := { row := fnExactFormatSampleUptoRow, standIns := [], harness := (true, "c2f3ad821960cf809b78cba9f06d52877dfc8e5667c0fb02a348dbfc3e54d718"), looks := false }, kinds := [], alts := [], laidByText := true, laidKinds := [.data, .data, .data], laidTests := true, laidLooks := .later }
def FnExactFormatSampleUptoCardSaid : Prop := Claim7.holds Tryd.pinned (.plain (OpenSpec.upto fnExactFormatSampleSpec)) fnExactFormatSampleUptoCard
end Rows
end Go.Proofs.YtbgpcgimmiinbaaDoor
