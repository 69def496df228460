/-
  DERIVED. GIVEN WITH THE SEED: THE CARDS: each row of YtlhpkjhinikmmadDoorRows.lean that lists a variable, with what it lists TIED to the program's text (the seventh form; the later family's looks); each row that meets fmt, with fmt's text TOLD by the authors' own Lean function (tested against real Go, not proved from fmt's source: count such statements apart). THE CARD IS WHAT COUNTS. Prove the row's statement (the work); the ties are given (YtlhpkjhinikmmadDoorTie.lean); close each card by the builder's one call (the guide's Derived/Test/ToyasCard.lean, 'card_holds'). Laid BY PROGRAM, IN A SANDBOX (cutbox-door.mjs). By AI agents, Wed Nov 11 2026. No macro, syntax, notation, axiom, sorry.
-/
import Derived.Test.YtlhpkjhinikmmadDoorRows
import GoSem.ClaimSeven
namespace Go.Proofs.YtlhpkjhinikmmadDoor
namespace Rows

/-- THE TIED CARD OF 'laws.FnExactClassOf'. -/
def fnExactClassOfCard : Claim7 := { stood := { row := fnExactClassOfRow, standIns := [], harness := (true, "1dcf114097accf4e9828a1fabcbe5860219af87c13cb0289c333d7d4c976af50"), looks := false }, kinds := [], alts := [], laidByText := true, laidKinds := [.data], laidTests := true, laidLooks := .later }
def FnExactClassOfCardSaid : Prop := Claim7.holds Tryd.pinned (.plain (OpenSpec.ofChange fnExactClassOfSpec)) fnExactClassOfCard

/-- THE TIED CARD OF 'laws.FnExactApartOf'. -/
def fnExactApartOfCard : Claim7 := { stood := { row := fnExactApartOfRow, standIns := [], harness := (true, "1dcf114097accf4e9828a1fabcbe5860219af87c13cb0289c333d7d4c976af50"), looks := false }, kinds := [], alts := [], laidByText := true, laidKinds := [.data, .data], laidTests := true, laidLooks := .later }
def FnExactApartOfCardSaid : Prop := Claim7.holds Tryd.pinned (.plain (OpenSpec.ofChange fnExactApartOfSpec)) fnExactApartOfCard

/-- THE TIED CARD OF 'laws.FnExactTogetherOf'. -/
def fnExactTogetherOfCard : Claim7 := { stood := { row := fnExactTogetherOfRow, standIns := [], harness := (true, "1dcf114097accf4e9828a1fabcbe5860219af87c13cb0289c333d7d4c976af50"), looks := false }, kinds := [], alts := [], laidByText := true, laidKinds := [.data, .data], laidTests := true, laidLooks := .later }
def FnExactTogetherOfCardSaid : Prop := Claim7.holds Tryd.pinned (.plain (OpenSpec.ofChange fnExactTogetherOfSpec)) fnExactTogetherOfCard

/-- THE TIED CARD OF 'laws.FnExactSortMarks'. -/
def fnExactSortMarksCard : Claim7 := { stood := { row := fnExactSortMarksRow, standIns := [], harness := (true, "1dcf114097accf4e9828a1fabcbe5860219af87c13cb0289c333d7d4c976af50"), looks := false }, kinds := [], alts := [], laidByText := true, laidKinds := [.data], laidTests := true, laidLooks := .later }
def FnExactSortMarksCardSaid : Prop := Claim7.holds Tryd.pinned (.plain (OpenSpec.ofChange fnExactSortMarksSpec)) fnExactSortMarksCard

/-- THE TIED CARD OF 'laws.FnExactNormalD'. -/
def fnExactNormalDCard : Claim7 := { stood := { row := fnExactNormalDRow, standIns := [], harness := (true, "1dcf114097accf4e9828a1fabcbe5860219af87c13cb0289c333d7d4c976af50"), looks := false }, kinds := [], alts := [], laidByText := true, laidKinds := [.data, .data, .data], laidTests := true, laidLooks := .later }
def FnExactNormalDCardSaid : Prop := Claim7.holds Tryd.pinned (.plain (OpenSpec.ofChange fnExactNormalDSpec)) fnExactNormalDCard

/-- THE TIED CARD OF 'laws.FnExactNormalC'. -/
def fnExactNormalCCard : Claim7 := { stood := { row := fnExactNormalCRow, standIns := [], harness := (true, "1dcf114097accf4e9828a1fabcbe5860219af87c13cb0289c333d7d4c976af50"), looks := false }, kinds := [], alts := [], laidByText := true, laidKinds := [.data, .data, .data], laidTests := true, laidLooks := .later }
def FnExactNormalCCardSaid : Prop := Claim7.holds Tryd.pinned (.plain (OpenSpec.ofChange fnExactNormalCSpec)) fnExactNormalCCard

/-- THE SECOND FORM's CARD OF 'laws.FnExactClassOf'. -/
def fnExactClassOfUptoCard : Claim7 := { stood := { row := fnExactClassOfUptoRow, standIns := [], harness := (true, "1dcf114097accf4e9828a1fabcbe5860219af87c13cb0289c333d7d4c976af50"), looks := false }, kinds := [], alts := [], laidByText := true, laidKinds := [.data], laidTests := true, laidLooks := .later }
def FnExactClassOfUptoCardSaid : Prop := Claim7.holds Tryd.pinned (.plain (OpenSpec.upto fnExactClassOfSpec)) fnExactClassOfUptoCard

/-- THE SECOND FORM's CARD OF 'laws.FnExactApartOf'. -/
def fnExactApartOfUptoCard : Claim7 := { stood := { row := fnExactApartOfUptoRow, standIns := [], harness := (true, "1dcf114097accf4e9828a1fabcbe5860219af87c13cb0289c333d7d4c976af50"), looks := false }, kinds := [], alts := [], laidByText := true, laidKinds := [.data, .data], laidTests := true, laidLooks := .later }
def FnExactApartOfUptoCardSaid : Prop := Claim7.holds Tryd.pinned (.plain (OpenSpec.upto fnExactApartOfSpec)) fnExactApartOfUptoCard

/-- THE SECOND FORM's CARD OF 'laws.FnExactTogetherOf'. -/
def fnExactTogetherOfUptoCard : Claim7 := { stood := { row := fnExactTogetherOfUptoRow, standIns := [], harness := (true, "1dcf114097accf4e9828a1fabcbe5860219af87c13cb0289c333d7d4c976af50"), looks := false }, kinds := [], alts := [], laidByText := true, laidKinds := [.data, .data], laidTests := true, laidLooks := .later }
def FnExactTogetherOfUptoCardSaid : Prop := Claim7.holds Tryd.pinned (.plain (OpenSpec.upto fnExactTogetherOfSpec)) fnExactTogetherOfUptoCard

/-- THE SECOND FORM's CARD OF 'laws.FnExactSortMarks'. -/
def fnExactSortMarksUptoCard : Claim7 := { stood := { row := fnExactSortMarksUptoRow, standIns := [], harness := (true, "1dcf114097accf4e9828a1fabcbe5860219af87c13cb0289c333d7d4c976af50"), looks := false }, kinds := [], alts := [], laidByText := true, laidKinds := [.data], laidTests := true, laidLooks := .later }
def FnExactSortMarksUptoCardSaid : Prop := Claim7.holds Tryd.pinned (.plain (OpenSpec.upto fnExactSortMarksSpec)) fnExactSortMarksUptoCard

/-- THE SECOND FORM's CARD OF 'laws.FnExactNormalD'. -/
def fnExactNormalDUptoCard : Claim7 := { stood := { row := fnExactNormalDUptoRow, standIns := [], harness := (true, "1dcf114097accf4e9828a1fabcbe5860219af87c13cb0289c333d7d4c976af50"), looks := false }, kinds := [], alts := [], laidByText := true, laidKinds := [.data, .data, .data], laidTests := true, laidLooks := .later }
def FnExactNormalDUptoCardSaid : Prop := Claim7.holds Tryd.pinned (.plain (OpenSpec.upto fnExactNormalDSpec)) fnExactNormalDUptoCard

/-- THE SECOND FORM's CARD OF 'laws.FnExactNormalC'. -/
def fnExactNormalCUptoCard : Claim7 := { stood := { row := fnExactNormalCUptoRow, standIns := [], harness := (true, "1dcf114097accf4e9828a1fabcbe5860219af87c13cb0289c333d7d4c976af50"), looks := false }, kinds := [], alts := [], laidByText := true, laidKinds := [.data, .data, .data], laidTests := true, laidLooks := .later }
def FnExactNormalCUptoCardSaid : Prop := Claim7.holds Tryd.pinned (.plain (OpenSpec.upto fnExactNormalCSpec)) fnExactNormalCUptoCard
end Rows
end Go.Proofs.YtlhpkjhinikmmadDoor
