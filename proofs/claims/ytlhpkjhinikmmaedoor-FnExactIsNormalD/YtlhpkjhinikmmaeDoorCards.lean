/-
  DERIVED. GIVEN WITH THE SEED: THE CARDS: each row of YtlhpkjhinikmmaeDoorRows.lean that lists a variable, with what it lists TIED to the program's text (the seventh form; the later family's looks); each row that meets fmt, with fmt's text TOLD by the authors' own Lean function (tested against real Go, not proved from fmt's source: count such statements apart). THE CARD IS WHAT COUNTS. Prove the row's statement (the work); the ties are given (YtlhpkjhinikmmaeDoorTie.lean); close each card by the builder's one call (the guide's Derived/Test/ToyasCard.lean, 'card_holds'). Laid BY PROGRAM, IN A SANDBOX (cutbox-door.mjs). By AI agents, Wed Nov 11 2026. No macro, syntax, notation, axiom, sorry.
-/
import Derived.Test.YtlhpkjhinikmmaeDoorRows
import GoSem.ClaimSeven
namespace Go.Proofs.YtlhpkjhinikmmaeDoor
namespace Rows

/-- THE TIED CARD OF 'laws.FnExactIsNormalD'. -/
def fnExactIsNormalDCard : Claim7 := { stood := { row := fnExactIsNormalDRow, standIns := [], harness := (true, "5156e8e4caf64fbaeb5a6ab40c7b5b166878cbb88cd9a2b4232e8270b5024408"), looks := false }, kinds := [], alts := [], laidByText := true, laidKinds := [.data, .data, .data], laidTests := true, laidLooks := .later }
def FnExactIsNormalDCardSaid : Prop := Claim7.holds Tryd.pinned (.plain (OpenSpec.ofChange fnExactIsNormalDSpec)) fnExactIsNormalDCard

/-- THE TIED CARD OF 'laws.FnExactSameRunes'. -/
def fnExactSameRunesCard : Claim7 := { stood := { row := fnExactSameRunesRow, standIns := [], harness := (true, "5156e8e4caf64fbaeb5a6ab40c7b5b166878cbb88cd9a2b4232e8270b5024408"), looks := false }, kinds := [], alts := [], laidByText := true, laidKinds := [.data, .data, .data], laidTests := true, laidLooks := .later }
def FnExactSameRunesCardSaid : Prop := Claim7.holds Tryd.pinned (.plain (OpenSpec.ofChange fnExactSameRunesSpec)) fnExactSameRunesCard

/-- THE SECOND FORM's CARD OF 'laws.FnExactIsNormalD'. -/
def fnExactIsNormalDUptoCard : Claim7 := { stood := { row := fnExactIsNormalDUptoRow, standIns := [], harness := (true, "5156e8e4caf64fbaeb5a6ab40c7b5b166878cbb88cd9a2b4232e8270b5024408"), looks := false }, kinds := [], alts := [], laidByText := true, laidKinds := [.data, .data, .data], laidTests := true, laidLooks := .later }
def FnExactIsNormalDUptoCardSaid : Prop := Claim7.holds Tryd.pinned (.plain (OpenSpec.upto fnExactIsNormalDSpec)) fnExactIsNormalDUptoCard

/-- THE SECOND FORM's CARD OF 'laws.FnExactSameRunes'. -/
def fnExactSameRunesUptoCard : Claim7 := { stood := { row := fnExactSameRunesUptoRow, standIns := [], harness := (true, "5156e8e4caf64fbaeb5a6ab40c7b5b166878cbb88cd9a2b4232e8270b5024408"), looks := false }, kinds := [], alts := [], laidByText := true, laidKinds := [.data, .data, .data], laidTests := true, laidLooks := .later }
def FnExactSameRunesUptoCardSaid : Prop := Claim7.holds Tryd.pinned (.plain (OpenSpec.upto fnExactSameRunesSpec)) fnExactSameRunesUptoCard
end Rows
end Go.Proofs.YtlhpkjhinikmmaeDoor
