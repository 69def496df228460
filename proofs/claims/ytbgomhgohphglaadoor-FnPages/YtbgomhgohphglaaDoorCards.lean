/-
  DERIVED. GIVEN WITH THE SEED: THE CARDS: each row of YtbgomhgohphglaaDoorRows.lean that lists a variable, with what it lists TIED to the program's text (the seventh form; the later family's looks); each row that meets fmt, with fmt's text TOLD by the authors' own Lean function (tested against real Go, not proved from fmt's source: count such statements apart). THE CARD IS WHAT COUNTS. Prove the row's statement (the work); the ties are given (YtbgomhgohphglaaDoorTie.lean); close each card by the builder's one call (the guide's Derived/Test/ToyasCard.lean, 'card_holds'). Laid BY PROGRAM, IN A SANDBOX (cutbox-door.mjs). By AI agents, Wed Nov 11 2026. No macro, syntax, notation, axiom, sorry.
-/
import Derived.Test.YtbgomhgohphglaaDoorRows
import GoSem.ClaimSeven
namespace Go.Proofs.YtbgomhgohphglaaDoor
namespace Rows

/-- THE TIED CARD OF 'laws.FnPages'. -/
def fnPagesCard : Claim7 := { stood := { row := fnPagesRow, standIns := [], harness := (true, "37f6eeadb8432797d9f342ad3a79978c264252f52244ec5f39e44755b878bc4b"), looks := false }, kinds := [], alts := [], laidByText := true, laidKinds := [.sentinel], laidTests := true, laidLooks := .later }
def FnPagesCardSaid : Prop := Claim7.holds Tryd.pinned (.plain (OpenSpec.ofChange fnPagesSpec)) fnPagesCard

/-- THE TIED CARD OF 'laws.FnTree'. -/
def fnTreeCard : Claim7 := { stood := { row := fnTreeRow, standIns := [], harness := (true, "37f6eeadb8432797d9f342ad3a79978c264252f52244ec5f39e44755b878bc4b"), looks := false }, kinds := [], alts := [], laidByText := true, laidKinds := [.sentinel], laidTests := true, laidLooks := .later }
def FnTreeCardSaid : Prop := Claim7.holds Tryd.pinned (.plain (OpenSpec.ofChange fnTreeSpec)) fnTreeCard

/-- THE TIED CARD OF 'laws.FnExactPutInPages'. -/
def fnExactPutInPagesCard : Claim7 := { stood := { row := fnExactPutInPagesRow, standIns := [], harness := (true, "37f6eeadb8432797d9f342ad3a79978c264252f52244ec5f39e44755b878bc4b"), looks := false }, kinds := [], alts := [], laidByText := true, laidKinds := [.sentinel], laidTests := true, laidLooks := .later }
def FnExactPutInPagesCardSaid : Prop := Claim7.holds Tryd.pinned (.plain (OpenSpec.ofChange fnExactPutInPagesSpec)) fnExactPutInPagesCard

/-- THE TIED CARD OF 'laws.FnExactDropFromPages'. -/
def fnExactDropFromPagesCard : Claim7 := { stood := { row := fnExactDropFromPagesRow, standIns := [], harness := (true, "37f6eeadb8432797d9f342ad3a79978c264252f52244ec5f39e44755b878bc4b"), looks := false }, kinds := [], alts := [], laidByText := true, laidKinds := [.sentinel], laidTests := true, laidLooks := .later }
def FnExactDropFromPagesCardSaid : Prop := Claim7.holds Tryd.pinned (.plain (OpenSpec.ofChange fnExactDropFromPagesSpec)) fnExactDropFromPagesCard

/-- THE SECOND FORM's CARD OF 'laws.FnPages'. -/
def fnPagesUptoCard : Claim7 := { stood := { row := fnPagesUptoRow, standIns := [], harness := (true, "37f6eeadb8432797d9f342ad3a79978c264252f52244ec5f39e44755b878bc4b"), looks := false }, kinds := [], alts := [], laidByText := true, laidKinds := [.sentinel], laidTests := true, laidLooks := .later }
def FnPagesUptoCardSaid : Prop := Claim7.holds Tryd.pinned (.plain (OpenSpec.upto fnPagesSpec)) fnPagesUptoCard

/-- THE SECOND FORM's CARD OF 'laws.FnTree'. -/
def fnTreeUptoCard : Claim7 := { stood := { row := fnTreeUptoRow, standIns := [], harness := (true, "37f6eeadb8432797d9f342ad3a79978c264252f52244ec5f39e44755b878bc4b"), looks := false }, kinds := [], alts := [], laidByText := true, laidKinds := [.sentinel], laidTests := true, laidLooks := .later }
def FnTreeUptoCardSaid : Prop := Claim7.holds Tryd.pinned (.plain (OpenSpec.upto fnTreeSpec)) fnTreeUptoCard

/-- THE SECOND FORM's CARD OF 'laws.FnExactPutInPages'. -/
def fnExactPutInPagesUptoCard : Claim7 := { stood := { row := fnExactPutInPagesUptoRow, standIns := [], harness := (true, "37f6eeadb8432797d9f342ad3a79978c264252f52244ec5f39e44755b878bc4b"), looks := false }, kinds := [], alts := [], laidByText := true, laidKinds := [.sentinel], laidTests := true, laidLooks := .later }
def FnExactPutInPagesUptoCardSaid : Prop := Claim7.holds Tryd.pinned (.plain (OpenSpec.upto fnExactPutInPagesSpec)) fnExactPutInPagesUptoCard

/-- THE SECOND FORM's CARD OF 'laws.FnExactDropFromPages'. -/
def fnExactDropFromPagesUptoCard : Claim7 := { stood := { row := fnExactDropFromPagesUptoRow, standIns := [], harness := (true, "37f6eeadb8432797d9f342ad3a79978c264252f52244ec5f39e44755b878bc4b"), looks := false }, kinds := [], alts := [], laidByText := true, laidKinds := [.sentinel], laidTests := true, laidLooks := .later }
def FnExactDropFromPagesUptoCardSaid : Prop := Claim7.holds Tryd.pinned (.plain (OpenSpec.upto fnExactDropFromPagesSpec)) fnExactDropFromPagesUptoCard
end Rows
end Go.Proofs.YtbgomhgohphglaaDoor
