/-
  DERIVED. GIVEN WITH THE SEED: THE CARDS: each row of YtcmanfcgoapjjagGreatDoorRows.lean that lists a variable, with what it lists TIED to the program's text (the seventh form; the later family's looks); each row that meets fmt, with fmt's text TOLD by the authors' own Lean function (tested against real Go, not proved from fmt's source: count such statements apart). THE CARD IS WHAT COUNTS. Prove the row's statement (the work); the ties are given (YtcmanfcgoapjjagGreatDoorTie.lean); close each card by the builder's one call (the guide's Derived/Test/ToyasCard.lean, 'card_holds'). Laid BY PROGRAM, IN A SANDBOX (cutbox-door.mjs). By AI agents, Wed Nov 11 2026. No macro, syntax, notation, axiom, sorry.
-/
import Derived.Test.YtcmanfcgoapjjagGreatDoorRows
import GoSem.ClaimSeven
namespace Go.Proofs.YtcmanfcgoapjjagGreatDoor
namespace Rows

/-- THE TIED CARD OF 'laws.FnExactSortTexts'. -/
def fnExactSortTextsCard : Claim7 := { stood := { row := fnExactSortTextsRow, standIns := [], harness := (true, "d935f207b7cdd5eb6aa3aea8a878cccbb672438b9bb443f5687e3e5a8f24ad2d"), looks := false }, kinds := [], alts := [], laidByText := true, laidKinds := [.data, .data, .data], laidTests := true, laidLooks := .later }
def FnExactSortTextsCardSaid : Prop := Claim7.holds Tryz.pinned (.plain (OpenSpec.ofChange fnExactSortTextsSpec)) fnExactSortTextsCard

/-- THE SECOND FORM's CARD OF 'laws.FnExactSortTexts'. -/
def fnExactSortTextsUptoCard : Claim7 := { stood := { row := fnExactSortTextsUptoRow, standIns := [], harness := (true, "d935f207b7cdd5eb6aa3aea8a878cccbb672438b9bb443f5687e3e5a8f24ad2d"), looks := false }, kinds := [], alts := [], laidByText := true, laidKinds := [.data, .data, .data], laidTests := true, laidLooks := .later }
def FnExactSortTextsUptoCardSaid : Prop := Claim7.holds Tryz.pinned (.plain (OpenSpec.upto fnExactSortTextsSpec)) fnExactSortTextsUptoCard
end Rows
end Go.Proofs.YtcmanfcgoapjjagGreatDoor
