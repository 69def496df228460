/-
  DERIVED. GIVEN WITH THE SEED: THE CARDS: each row of YtddelohmppdndaaGreatDoorRows.lean that lists a variable, with what it lists TIED to the program's text (the seventh form; the later family's looks); each row that meets fmt, with fmt's text TOLD by the authors' own Lean function (tested against real Go, not proved from fmt's source: count such statements apart). THE CARD IS WHAT COUNTS. Prove the row's statement (the work); the ties are given (YtddelohmppdndaaGreatDoorTie.lean); close each card by the builder's one call (the guide's Derived/Test/ToyasCard.lean, 'card_holds'). Laid BY PROGRAM, IN A SANDBOX (cutbox-door.mjs). By AI agents, Wed Nov 11 2026. No macro, syntax, notation, axiom, sorry.
-/
import Derived.Test.YtddelohmppdndaaGreatDoorRows
import GoSem.ClaimSeven
namespace Go.Proofs.YtddelohmppdndaaGreatDoor
namespace Rows

/-- THE TIED CARD OF 'laws.FnExactFindText'. -/
def fnExactFindTextCard : Claim7 := { stood := { row := fnExactFindTextRow, standIns := [], harness := (true, "37320d30153d9ab427687f12ca0839402f185d288cf790be4e28b51757f04616"), looks := false }, kinds := [], alts := [], laidByText := true, laidKinds := [.data, .data, .data], laidTests := true, laidLooks := .later }
def FnExactFindTextCardSaid : Prop := Claim7.holds Tryz.pinned (.plain (OpenSpec.ofChange fnExactFindTextSpec)) fnExactFindTextCard

/-- THE SECOND FORM's CARD OF 'laws.FnExactFindText'. -/
def fnExactFindTextUptoCard : Claim7 := { stood := { row := fnExactFindTextUptoRow, standIns := [], harness := (true, "37320d30153d9ab427687f12ca0839402f185d288cf790be4e28b51757f04616"), looks := false }, kinds := [], alts := [], laidByText := true, laidKinds := [.data, .data, .data], laidTests := true, laidLooks := .later }
def FnExactFindTextUptoCardSaid : Prop := Claim7.holds Tryz.pinned (.plain (OpenSpec.upto fnExactFindTextSpec)) fnExactFindTextUptoCard
end Rows
end Go.Proofs.YtddelohmppdndaaGreatDoor
