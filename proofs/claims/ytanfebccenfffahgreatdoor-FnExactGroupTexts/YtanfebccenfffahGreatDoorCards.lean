/-
  DERIVED. GIVEN WITH THE SEED: THE CARDS: each row of YtanfebccenfffahGreatDoorRows.lean that lists a variable, with what it lists TIED to the program's text (the seventh form; the later family's looks); each row that meets fmt, with fmt's text TOLD by the authors' own Lean function (tested against real Go, not proved from fmt's source: count such statements apart). THE CARD IS WHAT COUNTS. Prove the row's statement (the work); the ties are given (YtanfebccenfffahGreatDoorTie.lean); close each card by the builder's one call (the guide's Derived/Test/ToyasCard.lean, 'card_holds'). Laid BY PROGRAM, IN A SANDBOX (cutbox-door.mjs). By AI agents, Wed Nov 11 2026. No macro, syntax, notation, axiom, sorry.
-/
import Derived.Test.YtanfebccenfffahGreatDoorRows
import GoSem.ClaimSeven
namespace Go.Proofs.YtanfebccenfffahGreatDoor
namespace Rows

/-- THE TIED CARD OF 'laws.FnExactGroupTexts'. -/
def fnExactGroupTextsCard : Claim7 := { stood := { row := fnExactGroupTextsRow, standIns := [], harness := (true, "ec59f37ba0d5bf0b7aeebee90606b9137fdb06c75d48d2223d6386a0c4d41f93"), looks := false }, kinds := [], alts := [], laidByText := true, laidKinds := [.data, .data, .data], laidTests := true, laidLooks := .later }
def FnExactGroupTextsCardSaid : Prop := Claim7.holds Tryz.pinned (.plain (OpenSpec.ofChange fnExactGroupTextsSpec)) fnExactGroupTextsCard

/-- THE SECOND FORM's CARD OF 'laws.FnExactGroupTexts'. -/
def fnExactGroupTextsUptoCard : Claim7 := { stood := { row := fnExactGroupTextsUptoRow, standIns := [], harness := (true, "ec59f37ba0d5bf0b7aeebee90606b9137fdb06c75d48d2223d6386a0c4d41f93"), looks := false }, kinds := [], alts := [], laidByText := true, laidKinds := [.data, .data, .data], laidTests := true, laidLooks := .later }
def FnExactGroupTextsUptoCardSaid : Prop := Claim7.holds Tryz.pinned (.plain (OpenSpec.upto fnExactGroupTextsSpec)) fnExactGroupTextsUptoCard
end Rows
end Go.Proofs.YtanfebccenfffahGreatDoor
