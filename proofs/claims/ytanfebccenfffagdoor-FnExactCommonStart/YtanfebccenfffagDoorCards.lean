/-
  DERIVED. GIVEN WITH THE SEED: THE CARDS: each row of YtanfebccenfffagDoorRows.lean that lists a variable, with what it lists TIED to the program's text (the seventh form; the later family's looks); each row that meets fmt, with fmt's text TOLD by the authors' own Lean function (tested against real Go, not proved from fmt's source: count such statements apart). THE CARD IS WHAT COUNTS. Prove the row's statement (the work); the ties are given (YtanfebccenfffagDoorTie.lean); close each card by the builder's one call (the guide's Derived/Test/ToyasCard.lean, 'card_holds'). Laid BY PROGRAM, IN A SANDBOX (cutbox-door.mjs). By AI agents, Wed Nov 11 2026. No macro, syntax, notation, axiom, sorry.
-/
import Derived.Test.YtanfebccenfffagDoorRows
import GoSem.ClaimSeven
namespace Go.Proofs.YtanfebccenfffagDoor
namespace Rows

/-- THE TIED CARD OF 'laws.FnExactBeginsWith'. -/
def fnExactBeginsWithCard : Claim7 := { stood := { row := fnExactBeginsWithRow, standIns := [], harness := (true, "d7c00c89b2741455e45fd59008acd0c2043fa62de14beb8c345a2115a56dd568"), looks := false }, kinds := [], alts := [], laidByText := true, laidKinds := [.data, .data, .data], laidTests := true, laidLooks := .later }
def FnExactBeginsWithCardSaid : Prop := Claim7.holds Tryd.pinned (.plain (OpenSpec.ofChange fnExactBeginsWithSpec)) fnExactBeginsWithCard

/-- THE TIED CARD OF 'laws.FnExactCutsOf'. -/
def fnExactCutsOfCard : Claim7 := { stood := { row := fnExactCutsOfRow, standIns := [], harness := (true, "d7c00c89b2741455e45fd59008acd0c2043fa62de14beb8c345a2115a56dd568"), looks := false }, kinds := [], alts := [], laidByText := true, laidKinds := [.data, .data, .data], laidTests := true, laidLooks := .later }
def FnExactCutsOfCardSaid : Prop := Claim7.holds Tryd.pinned (.plain (OpenSpec.ofChange fnExactCutsOfSpec)) fnExactCutsOfCard

/-- THE TIED CARD OF 'laws.FnExactCommonStart'. -/
def fnExactCommonStartCard : Claim7 := { stood := { row := fnExactCommonStartRow, standIns := [], harness := (true, "d7c00c89b2741455e45fd59008acd0c2043fa62de14beb8c345a2115a56dd568"), looks := false }, kinds := [], alts := [], laidByText := true, laidKinds := [.data, .data, .data], laidTests := true, laidLooks := .later }
def FnExactCommonStartCardSaid : Prop := Claim7.holds Tryd.pinned (.plain (OpenSpec.ofChange fnExactCommonStartSpec)) fnExactCommonStartCard

/-- THE SECOND FORM's CARD OF 'laws.FnExactBeginsWith'. -/
def fnExactBeginsWithUptoCard : Claim7 := { stood := { row := fnExactBeginsWithUptoRow, standIns := [], harness := (true, "d7c00c89b2741455e45fd59008acd0c2043fa62de14beb8c345a2115a56dd568"), looks := false }, kinds := [], alts := [], laidByText := true, laidKinds := [.data, .data, .data], laidTests := true, laidLooks := .later }
def FnExactBeginsWithUptoCardSaid : Prop := Claim7.holds Tryd.pinned (.plain (OpenSpec.upto fnExactBeginsWithSpec)) fnExactBeginsWithUptoCard

/-- THE SECOND FORM's CARD OF 'laws.FnExactCutsOf'. -/
def fnExactCutsOfUptoCard : Claim7 := { stood := { row := fnExactCutsOfUptoRow, standIns := [], harness := (true, "d7c00c89b2741455e45fd59008acd0c2043fa62de14beb8c345a2115a56dd568"), looks := false }, kinds := [], alts := [], laidByText := true, laidKinds := [.data, .data, .data], laidTests := true, laidLooks := .later }
def FnExactCutsOfUptoCardSaid : Prop := Claim7.holds Tryd.pinned (.plain (OpenSpec.upto fnExactCutsOfSpec)) fnExactCutsOfUptoCard

/-- THE SECOND FORM's CARD OF 'laws.FnExactCommonStart'. -/
def fnExactCommonStartUptoCard : Claim7 := { stood := { row := fnExactCommonStartUptoRow, standIns := [], harness := (true, "d7c00c89b2741455e45fd59008acd0c2043fa62de14beb8c345a2115a56dd568"), looks := false }, kinds := [], alts := [], laidByText := true, laidKinds := [.data, .data, .data], laidTests := true, laidLooks := .later }
def FnExactCommonStartUptoCardSaid : Prop := Claim7.holds Tryd.pinned (.plain (OpenSpec.upto fnExactCommonStartSpec)) fnExactCommonStartUptoCard
end Rows
end Go.Proofs.YtanfebccenfffagDoor
