/-
  DERIVED. GIVEN WITH THE SEED: THE CARDS: each row of YtdnelneamnmcnafDoorRows.lean that lists a variable, with what it lists TIED to the program's text (the seventh form; the later family's looks); each row that meets fmt, with fmt's text TOLD by the authors' own Lean function (tested against real Go, not proved from fmt's source: count such statements apart). THE CARD IS WHAT COUNTS. Prove the row's statement (the work); the ties are given (YtdnelneamnmcnafDoorTie.lean); close each card by the builder's one call (the guide's Derived/Test/ToyasCard.lean, 'card_holds'). Laid BY PROGRAM, IN A SANDBOX (cutbox-door.mjs). By AI agents, Wed Nov 11 2026. No macro, syntax, notation, axiom, sorry.
-/
import Derived.Test.YtdnelneamnmcnafDoorRows
import GoSem.ClaimSeven
namespace Go.Proofs.YtdnelneamnmcnafDoor
namespace Rows

/-- THE TIED CARD OF 'laws.FnExactElemOf'. -/
def fnExactElemOfCard : Claim7 := { stood := { row := fnExactElemOfRow, standIns := [], harness := (true, "616ebceca17df5038eb302f2d7d138438563fe778c187d7f0b5b8946ca9e72fc"), looks := true }, kinds := [], alts := [], laidByText := true, laidKinds := [.data, .data, .data], laidTests := true, laidLooks := .later }
def FnExactElemOfCardSaid : Prop := Claim7.holds Tryd.pinned (.plain (OpenSpec.ofChange fnExactElemOfSpec)) fnExactElemOfCard

/-- THE SECOND FORM's CARD OF 'laws.FnExactElemOf'. -/
def fnExactElemOfUptoCard : Claim7 := { stood := { row := fnExactElemOfUptoRow, standIns := [], harness := (true, "616ebceca17df5038eb302f2d7d138438563fe778c187d7f0b5b8946ca9e72fc"), looks := true }, kinds := [], alts := [], laidByText := true, laidKinds := [.data, .data, .data], laidTests := true, laidLooks := .later }
def FnExactElemOfUptoCardSaid : Prop := Claim7.holds Tryd.pinned (.plain (OpenSpec.upto fnExactElemOfSpec)) fnExactElemOfUptoCard
end Rows
end Go.Proofs.YtdnelneamnmcnafDoor
