/-
  DERIVED. GIVEN WITH THE SEED: THE CARDS: each row of YtcmanfcgoapjjagDoorRows.lean that lists a variable, with what it lists TIED to the program's text (the seventh form; the later family's looks); each row that meets fmt, with fmt's text TOLD by the authors' own Lean function (tested against real Go, not proved from fmt's source: count such statements apart). THE CARD IS WHAT COUNTS. Prove the row's statement (the work); the ties are given (YtcmanfcgoapjjagDoorTie.lean); close each card by the builder's one call (the guide's Derived/Test/ToyasCard.lean, 'card_holds'). Laid BY PROGRAM, IN A SANDBOX (cutbox-door.mjs). By AI agents, Wed Nov 11 2026. No macro, syntax, notation, axiom, sorry.
-/
import Derived.Test.YtcmanfcgoapjjagDoorRows
import GoSem.ClaimSeven
namespace Go.Proofs.YtcmanfcgoapjjagDoor
namespace Rows

/-- THE TIED CARD OF 'laws.FnExactBeginsWith'. -/
def fnExactBeginsWithCard : Claim7 := { stood := { row := fnExactBeginsWithRow, standIns := [], harness := (true, "b83aa159c15781eab44f4acb4c396ba03423f8bdf06d914622aa1e45e9890664"), looks := false }, kinds := [], alts := [], laidByText := true, laidKinds := [.data, .data, .data], laidTests := true, laidLooks := .later }
def FnExactBeginsWithCardSaid : Prop := Claim7.holds Tryd.pinned (.plain (OpenSpec.ofChange fnExactBeginsWithSpec)) fnExactBeginsWithCard

/-- THE SECOND FORM's CARD OF 'laws.FnExactBeginsWith'. -/
def fnExactBeginsWithUptoCard : Claim7 := { stood := { row := fnExactBeginsWithUptoRow, standIns := [], harness := (true, "b83aa159c15781eab44f4acb4c396ba03423f8bdf06d914622aa1e45e9890664"), looks := false }, kinds := [], alts := [], laidByText := true, laidKinds := [.data, .data, .data], laidTests := true, laidLooks := .later }
def FnExactBeginsWithUptoCardSaid : Prop := Claim7.holds Tryd.pinned (.plain (OpenSpec.upto fnExactBeginsWithSpec)) fnExactBeginsWithUptoCard
end Rows
end Go.Proofs.YtcmanfcgoapjjagDoor
