/-
  DERIVED. GIVEN WITH THE SEED: THE CARDS: each row of YtanfebccenfffafDoorRows.lean that lists a variable, with what it lists TIED to the program's text (the seventh form; the later family's looks); each row that meets fmt, with fmt's text TOLD by the authors' own Lean function (tested against real Go, not proved from fmt's source: count such statements apart). THE CARD IS WHAT COUNTS. Prove the row's statement (the work); the ties are given (YtanfebccenfffafDoorTie.lean); close each card by the builder's one call (the guide's Derived/Test/ToyasCard.lean, 'card_holds'). Laid BY PROGRAM, IN A SANDBOX (cutbox-door.mjs). By AI agents, Wed Nov 11 2026. No macro, syntax, notation, axiom, sorry.
-/
import Derived.Test.YtanfebccenfffafDoorRows
import GoSem.ClaimSeven
namespace Go.Proofs.YtanfebccenfffafDoor
namespace Rows

/-- THE TIED CARD OF 'laws.FnExactElemOf'. -/
def fnExactElemOfCard : Claim7 := { stood := { row := fnExactElemOfRow, standIns := [], harness := (true, "94a95975eb93bc98d299d03bb79b07f4a1334ce9ce6bb2c4248ab85b33f1348b"), looks := true }, kinds := [], alts := [], laidByText := true, laidKinds := [.data, .data, .data], laidTests := true, laidLooks := .later }
def FnExactElemOfCardSaid : Prop := Claim7.holds Tryd.pinned (.plain (OpenSpec.ofChange fnExactElemOfSpec)) fnExactElemOfCard

/-- THE TIED CARD OF 'laws.FnExactElemsIn'. -/
def fnExactElemsInCard : Claim7 := { stood := { row := fnExactElemsInRow, standIns := [], harness := (true, "94a95975eb93bc98d299d03bb79b07f4a1334ce9ce6bb2c4248ab85b33f1348b"), looks := true }, kinds := [], alts := [], laidByText := true, laidKinds := [.data, .data, .data], laidTests := true, laidLooks := .later }
def FnExactElemsInCardSaid : Prop := Claim7.holds Tryd.pinned (.plain (OpenSpec.ofChange fnExactElemsInSpec)) fnExactElemsInCard

/-- THE TIED CARD OF 'laws.FnExactKeyOf'. -/
def fnExactKeyOfCard : Claim7 := { stood := { row := fnExactKeyOfRow, standIns := [], harness := (true, "94a95975eb93bc98d299d03bb79b07f4a1334ce9ce6bb2c4248ab85b33f1348b"), looks := true }, kinds := [], alts := [], laidByText := true, laidKinds := [.data, .data, .data], laidTests := true, laidLooks := .later }
def FnExactKeyOfCardSaid : Prop := Claim7.holds Tryd.pinned (.plain (OpenSpec.ofChange fnExactKeyOfSpec)) fnExactKeyOfCard

/-- THE TIED CARD OF 'laws.FnExactFirstsOf'. -/
def fnExactFirstsOfCard : Claim7 := { stood := { row := fnExactFirstsOfRow, standIns := [], harness := (true, "94a95975eb93bc98d299d03bb79b07f4a1334ce9ce6bb2c4248ab85b33f1348b"), looks := true }, kinds := [], alts := [], laidByText := true, laidKinds := [.data, .data, .data], laidTests := true, laidLooks := .later }
def FnExactFirstsOfCardSaid : Prop := Claim7.holds Tryd.pinned (.plain (OpenSpec.ofChange fnExactFirstsOfSpec)) fnExactFirstsOfCard

/-- THE TIED CARD OF 'laws.FnExactCompareTexts'. -/
def fnExactCompareTextsCard : Claim7 := { stood := { row := fnExactCompareTextsRow, standIns := [], harness := (true, "94a95975eb93bc98d299d03bb79b07f4a1334ce9ce6bb2c4248ab85b33f1348b"), looks := true }, kinds := [], alts := [], laidByText := true, laidKinds := [.data, .data, .data], laidTests := true, laidLooks := .later }
def FnExactCompareTextsCardSaid : Prop := Claim7.holds Tryd.pinned (.plain (OpenSpec.ofChange fnExactCompareTextsSpec)) fnExactCompareTextsCard

/-- THE SECOND FORM's CARD OF 'laws.FnExactElemOf'. -/
def fnExactElemOfUptoCard : Claim7 := { stood := { row := fnExactElemOfUptoRow, standIns := [], harness := (true, "94a95975eb93bc98d299d03bb79b07f4a1334ce9ce6bb2c4248ab85b33f1348b"), looks := true }, kinds := [], alts := [], laidByText := true, laidKinds := [.data, .data, .data], laidTests := true, laidLooks := .later }
def FnExactElemOfUptoCardSaid : Prop := Claim7.holds Tryd.pinned (.plain (OpenSpec.upto fnExactElemOfSpec)) fnExactElemOfUptoCard

/-- THE SECOND FORM's CARD OF 'laws.FnExactElemsIn'. -/
def fnExactElemsInUptoCard : Claim7 := { stood := { row := fnExactElemsInUptoRow, standIns := [], harness := (true, "94a95975eb93bc98d299d03bb79b07f4a1334ce9ce6bb2c4248ab85b33f1348b"), looks := true }, kinds := [], alts := [], laidByText := true, laidKinds := [.data, .data, .data], laidTests := true, laidLooks := .later }
def FnExactElemsInUptoCardSaid : Prop := Claim7.holds Tryd.pinned (.plain (OpenSpec.upto fnExactElemsInSpec)) fnExactElemsInUptoCard

/-- THE SECOND FORM's CARD OF 'laws.FnExactKeyOf'. -/
def fnExactKeyOfUptoCard : Claim7 := { stood := { row := fnExactKeyOfUptoRow, standIns := [], harness := (true, "94a95975eb93bc98d299d03bb79b07f4a1334ce9ce6bb2c4248ab85b33f1348b"), looks := true }, kinds := [], alts := [], laidByText := true, laidKinds := [.data, .data, .data], laidTests := true, laidLooks := .later }
def FnExactKeyOfUptoCardSaid : Prop := Claim7.holds Tryd.pinned (.plain (OpenSpec.upto fnExactKeyOfSpec)) fnExactKeyOfUptoCard

/-- THE SECOND FORM's CARD OF 'laws.FnExactFirstsOf'. -/
def fnExactFirstsOfUptoCard : Claim7 := { stood := { row := fnExactFirstsOfUptoRow, standIns := [], harness := (true, "94a95975eb93bc98d299d03bb79b07f4a1334ce9ce6bb2c4248ab85b33f1348b"), looks := true }, kinds := [], alts := [], laidByText := true, laidKinds := [.data, .data, .data], laidTests := true, laidLooks := .later }
def FnExactFirstsOfUptoCardSaid : Prop := Claim7.holds Tryd.pinned (.plain (OpenSpec.upto fnExactFirstsOfSpec)) fnExactFirstsOfUptoCard

/-- THE SECOND FORM's CARD OF 'laws.FnExactCompareTexts'. -/
def fnExactCompareTextsUptoCard : Claim7 := { stood := { row := fnExactCompareTextsUptoRow, standIns := [], harness := (true, "94a95975eb93bc98d299d03bb79b07f4a1334ce9ce6bb2c4248ab85b33f1348b"), looks := true }, kinds := [], alts := [], laidByText := true, laidKinds := [.data, .data, .data], laidTests := true, laidLooks := .later }
def FnExactCompareTextsUptoCardSaid : Prop := Claim7.holds Tryd.pinned (.plain (OpenSpec.upto fnExactCompareTextsSpec)) fnExactCompareTextsUptoCard
end Rows
end Go.Proofs.YtanfebccenfffafDoor
