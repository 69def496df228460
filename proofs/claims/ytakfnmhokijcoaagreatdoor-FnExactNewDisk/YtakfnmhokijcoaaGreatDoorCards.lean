/-
  DERIVED. GIVEN WITH THE SEED: THE CARDS: each row of YtakfnmhokijcoaaGreatDoorRows.lean that lists a variable, with what it lists TIED to the program's text (the seventh form; the later family's looks); each row that meets fmt, with fmt's text TOLD by the authors' own Lean function (tested against real Go, not proved from fmt's source: count such statements apart). THE CARD IS WHAT COUNTS. Prove the row's statement (the work); the ties are given (YtakfnmhokijcoaaGreatDoorTie.lean); close each card by the builder's one call (the guide's Derived/Test/ToyasCard.lean, 'card_holds'). Laid BY PROGRAM, IN A SANDBOX (cutbox-door.mjs). By AI agents, Wed Nov 11 2026. No macro, syntax, notation, axiom, sorry.
-/
import Derived.Test.YtakfnmhokijcoaaGreatDoorRows
import GoSem.ClaimSeven
namespace Go.Proofs.YtakfnmhokijcoaaGreatDoor
namespace Rows

/-- THE TIED CARD OF 'laws.FnExactNewDisk'. -/
def fnExactNewDiskCard : Claim7 := { stood := { row := fnExactNewDiskRow, standIns := [], harness := (true, "48aeffd577dba51a2636a32b2e00c080149c0c92137ccb39c9653fc2edd42499"), looks := true }, kinds := [], alts := [], laidByText := true, laidKinds := [.data, .data, .data, .data, .pinned], laidTests := true, laidLooks := .later }
def FnExactNewDiskCardSaid : Prop := Claim7.holds Tryz.pinned (.plain (OpenSpec.ofChange fnExactNewDiskSpec)) fnExactNewDiskCard

/-- THE SECOND FORM's CARD OF 'laws.FnExactNewDisk'. -/
def fnExactNewDiskUptoCard : Claim7 := { stood := { row := fnExactNewDiskUptoRow, standIns := [], harness := (true, "48aeffd577dba51a2636a32b2e00c080149c0c92137ccb39c9653fc2edd42499"), looks := true }, kinds := [], alts := [], laidByText := true, laidKinds := [.data, .data, .data, .data, .pinned], laidTests := true, laidLooks := .later }
def FnExactNewDiskUptoCardSaid : Prop := Claim7.holds Tryz.pinned (.plain (OpenSpec.upto fnExactNewDiskSpec)) fnExactNewDiskUptoCard
end Rows
end Go.Proofs.YtakfnmhokijcoaaGreatDoor
