/-
  DERIVED. GIVEN WITH THE SEED: THE CARDS: each row of YtecgkekafbimaaaDoorRows.lean that lists a variable, with what it lists TIED to the program's text (the seventh form; the later family's looks); each row that meets fmt, with fmt's text TOLD by the authors' own Lean function (tested against real Go, not proved from fmt's source: count such statements apart). THE CARD IS WHAT COUNTS. Prove the row's statement (the work); the ties are given (YtecgkekafbimaaaDoorTie.lean); close each card by the builder's one call (the guide's Derived/Test/ToyasCard.lean, 'card_holds'). Laid BY PROGRAM, IN A SANDBOX (cutbox-door.mjs). By AI agents, Wed Nov 11 2026. No macro, syntax, notation, axiom, sorry.
-/
import Derived.Test.YtecgkekafbimaaaDoorRows
import GoSem.ClaimSeven
namespace Go.Proofs.YtecgkekafbimaaaDoor
namespace Rows

/-- THE TIED CARD OF 'laws.FnExactFindRow'. -/
def fnExactFindRowCard : Claim7 := { stood := { row := fnExactFindRowRow, standIns := [], harness := (true, "4f6367ee9e31dd2afc831449c6613d0b273732ed6cecc493d63b80928508c28f"), looks := false }, kinds := [], alts := [], laidByText := true, laidKinds := [.sentinel], laidTests := true, laidLooks := .later }
def FnExactFindRowCardSaid : Prop := Claim7.holds Tryd.pinned (.plain (OpenSpec.ofChange fnExactFindRowSpec)) fnExactFindRowCard

/-- THE TIED CARD OF 'laws.FnExactPutInPages'. -/
def fnExactPutInPagesCard : Claim7 := { stood := { row := fnExactPutInPagesRow, standIns := [], harness := (true, "4f6367ee9e31dd2afc831449c6613d0b273732ed6cecc493d63b80928508c28f"), looks := false }, kinds := [], alts := [], laidByText := true, laidKinds := [.sentinel], laidTests := true, laidLooks := .later }
def FnExactPutInPagesCardSaid : Prop := Claim7.holds Tryd.pinned (.plain (OpenSpec.ofChange fnExactPutInPagesSpec)) fnExactPutInPagesCard

/-- THE TIED CARD OF 'laws.FnExactDropFromPages'. -/
def fnExactDropFromPagesCard : Claim7 := { stood := { row := fnExactDropFromPagesRow, standIns := [], harness := (true, "4f6367ee9e31dd2afc831449c6613d0b273732ed6cecc493d63b80928508c28f"), looks := false }, kinds := [], alts := [], laidByText := true, laidKinds := [.sentinel], laidTests := true, laidLooks := .later }
def FnExactDropFromPagesCardSaid : Prop := Claim7.holds Tryd.pinned (.plain (OpenSpec.ofChange fnExactDropFromPagesSpec)) fnExactDropFromPagesCard

/-- THE SECOND FORM's CARD OF 'laws.FnExactFindRow'. -/
def fnExactFindRowUptoCard : Claim7 := { stood := { row := fnExactFindRowUptoRow, standIns := [], harness := (true, "4f6367ee9e31dd2afc831449c6613d0b273732ed6cecc493d63b80928508c28f"), looks := false }, kinds := [], alts := [], laidByText := true, laidKinds := [.sentinel], laidTests := true, laidLooks := .later }
def FnExactFindRowUptoCardSaid : Prop := Claim7.holds Tryd.pinned (.plain (OpenSpec.upto fnExactFindRowSpec)) fnExactFindRowUptoCard

/-- THE SECOND FORM's CARD OF 'laws.FnExactPutInPages'. -/
def fnExactPutInPagesUptoCard : Claim7 := { stood := { row := fnExactPutInPagesUptoRow, standIns := [], harness := (true, "4f6367ee9e31dd2afc831449c6613d0b273732ed6cecc493d63b80928508c28f"), looks := false }, kinds := [], alts := [], laidByText := true, laidKinds := [.sentinel], laidTests := true, laidLooks := .later }
def FnExactPutInPagesUptoCardSaid : Prop := Claim7.holds Tryd.pinned (.plain (OpenSpec.upto fnExactPutInPagesSpec)) fnExactPutInPagesUptoCard

/-- THE SECOND FORM's CARD OF 'laws.FnExactDropFromPages'. -/
def fnExactDropFromPagesUptoCard : Claim7 := { stood := { row := fnExactDropFromPagesUptoRow, standIns := [], harness := (true, "4f6367ee9e31dd2afc831449c6613d0b273732ed6cecc493d63b80928508c28f"), looks := false }, kinds := [], alts := [], laidByText := true, laidKinds := [.sentinel], laidTests := true, laidLooks := .later }
def FnExactDropFromPagesUptoCardSaid : Prop := Claim7.holds Tryd.pinned (.plain (OpenSpec.upto fnExactDropFromPagesSpec)) fnExactDropFromPagesUptoCard
end Rows
end Go.Proofs.YtecgkekafbimaaaDoor
