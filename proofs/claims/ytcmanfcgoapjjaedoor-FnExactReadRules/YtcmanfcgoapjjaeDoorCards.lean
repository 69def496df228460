/-
  DERIVED. GIVEN WITH THE SEED: THE CARDS: each row of YtcmanfcgoapjjaeDoorRows.lean that lists a variable, with what it lists TIED to the program's text (the seventh form; the later family's looks); each row that meets fmt, with fmt's text TOLD by the authors' own Lean function (tested against real Go, not proved from fmt's source: count such statements apart). THE CARD IS WHAT COUNTS. Prove the row's statement (the work); the ties are given (YtcmanfcgoapjjaeDoorTie.lean); close each card by the builder's one call (the guide's Derived/Test/ToyasCard.lean, 'card_holds'). Laid BY PROGRAM, IN A SANDBOX (cutbox-door.mjs). By AI agents, Wed Nov 11 2026. No macro, syntax, notation, axiom, sorry.
-/
import Derived.Test.YtcmanfcgoapjjaeDoorRows
import GoSem.ClaimSeven
namespace Go.Proofs.YtcmanfcgoapjjaeDoor
namespace Rows

/-- THE TIED CARD OF 'laws.FnExactIsNormalD'. -/
def fnExactIsNormalDCard : Claim7 := { stood := { row := fnExactIsNormalDRow, standIns := [], harness := (true, "8630d516633ebaba5c305f177c9e4d756951136a2bad1ca50904b8ec53850654"), looks := true }, kinds := [], alts := [], laidByText := true, laidKinds := [.data, .data, .data], laidTests := true, laidLooks := .later }
def FnExactIsNormalDCardSaid : Prop := Claim7.holds Tryd.pinned (.plain (OpenSpec.ofChange fnExactIsNormalDSpec)) fnExactIsNormalDCard

/-- THE TIED CARD OF 'laws.FnExactSameRunes'. -/
def fnExactSameRunesCard : Claim7 := { stood := { row := fnExactSameRunesRow, standIns := [], harness := (true, "8630d516633ebaba5c305f177c9e4d756951136a2bad1ca50904b8ec53850654"), looks := true }, kinds := [], alts := [], laidByText := true, laidKinds := [.data, .data, .data], laidTests := true, laidLooks := .later }
def FnExactSameRunesCardSaid : Prop := Claim7.holds Tryd.pinned (.plain (OpenSpec.ofChange fnExactSameRunesSpec)) fnExactSameRunesCard

/-- THE TIED CARD OF 'laws.FnExactBaseElems'. -/
def fnExactBaseElemsCard : Claim7 := { stood := { row := fnExactBaseElemsRow, standIns := [], harness := (true, "8630d516633ebaba5c305f177c9e4d756951136a2bad1ca50904b8ec53850654"), looks := true }, kinds := [], alts := [], laidByText := true, laidKinds := [.data], laidTests := true, laidLooks := .later }
def FnExactBaseElemsCardSaid : Prop := Claim7.holds Tryd.pinned (.plain (OpenSpec.ofChange fnExactBaseElemsSpec)) fnExactBaseElemsCard

/-- THE TIED CARD OF 'laws.FnExactGoodRules'. -/
def fnExactGoodRulesCard : Claim7 := { stood := { row := fnExactGoodRulesRow, standIns := [], harness := (true, "8630d516633ebaba5c305f177c9e4d756951136a2bad1ca50904b8ec53850654"), looks := true }, kinds := [], alts := [], laidByText := true, laidKinds := [.data, .data, .data], laidTests := true, laidLooks := .later }
def FnExactGoodRulesCardSaid : Prop := Claim7.holds Tryd.pinned (.plain (OpenSpec.ofChange fnExactGoodRulesSpec)) fnExactGoodRulesCard

/-- THE TIED CARD OF 'laws.FnExactReadRules'. -/
def fnExactReadRulesCard : Claim7 := { stood := { row := fnExactReadRulesRow, standIns := [], harness := (true, "8630d516633ebaba5c305f177c9e4d756951136a2bad1ca50904b8ec53850654"), looks := true }, kinds := [], alts := [], laidByText := true, laidKinds := [.data, .data, .data, .data, .pinned], laidTests := true, laidLooks := .later }
def FnExactReadRulesCardSaid : Prop := Claim7.holds Tryd.pinned (.plain (OpenSpec.ofChange fnExactReadRulesSpec)) fnExactReadRulesCard

/-- THE SECOND FORM's CARD OF 'laws.FnExactIsNormalD'. -/
def fnExactIsNormalDUptoCard : Claim7 := { stood := { row := fnExactIsNormalDUptoRow, standIns := [], harness := (true, "8630d516633ebaba5c305f177c9e4d756951136a2bad1ca50904b8ec53850654"), looks := true }, kinds := [], alts := [], laidByText := true, laidKinds := [.data, .data, .data], laidTests := true, laidLooks := .later }
def FnExactIsNormalDUptoCardSaid : Prop := Claim7.holds Tryd.pinned (.plain (OpenSpec.upto fnExactIsNormalDSpec)) fnExactIsNormalDUptoCard

/-- THE SECOND FORM's CARD OF 'laws.FnExactSameRunes'. -/
def fnExactSameRunesUptoCard : Claim7 := { stood := { row := fnExactSameRunesUptoRow, standIns := [], harness := (true, "8630d516633ebaba5c305f177c9e4d756951136a2bad1ca50904b8ec53850654"), looks := true }, kinds := [], alts := [], laidByText := true, laidKinds := [.data, .data, .data], laidTests := true, laidLooks := .later }
def FnExactSameRunesUptoCardSaid : Prop := Claim7.holds Tryd.pinned (.plain (OpenSpec.upto fnExactSameRunesSpec)) fnExactSameRunesUptoCard

/-- THE SECOND FORM's CARD OF 'laws.FnExactBaseElems'. -/
def fnExactBaseElemsUptoCard : Claim7 := { stood := { row := fnExactBaseElemsUptoRow, standIns := [], harness := (true, "8630d516633ebaba5c305f177c9e4d756951136a2bad1ca50904b8ec53850654"), looks := true }, kinds := [], alts := [], laidByText := true, laidKinds := [.data], laidTests := true, laidLooks := .later }
def FnExactBaseElemsUptoCardSaid : Prop := Claim7.holds Tryd.pinned (.plain (OpenSpec.upto fnExactBaseElemsSpec)) fnExactBaseElemsUptoCard

/-- THE SECOND FORM's CARD OF 'laws.FnExactGoodRules'. -/
def fnExactGoodRulesUptoCard : Claim7 := { stood := { row := fnExactGoodRulesUptoRow, standIns := [], harness := (true, "8630d516633ebaba5c305f177c9e4d756951136a2bad1ca50904b8ec53850654"), looks := true }, kinds := [], alts := [], laidByText := true, laidKinds := [.data, .data, .data], laidTests := true, laidLooks := .later }
def FnExactGoodRulesUptoCardSaid : Prop := Claim7.holds Tryd.pinned (.plain (OpenSpec.upto fnExactGoodRulesSpec)) fnExactGoodRulesUptoCard

/-- THE SECOND FORM's CARD OF 'laws.FnExactReadRules'. -/
def fnExactReadRulesUptoCard : Claim7 := { stood := { row := fnExactReadRulesUptoRow, standIns := [], harness := (true, "8630d516633ebaba5c305f177c9e4d756951136a2bad1ca50904b8ec53850654"), looks := true }, kinds := [], alts := [], laidByText := true, laidKinds := [.data, .data, .data, .data, .pinned], laidTests := true, laidLooks := .later }
def FnExactReadRulesUptoCardSaid : Prop := Claim7.holds Tryd.pinned (.plain (OpenSpec.upto fnExactReadRulesSpec)) fnExactReadRulesUptoCard
end Rows
end Go.Proofs.YtcmanfcgoapjjaeDoor
