/-
  DERIVED. GIVEN WITH THE SEED: THE CARDS: each row of YtggfdgidfpkbaaaDoorRows.lean that lists a variable, with what it lists TIED to the program's text (the seventh form; the later family's looks); each row that meets fmt, with fmt's text TOLD by the authors' own Lean function (tested against real Go, not proved from fmt's source: count such statements apart). THE CARD IS WHAT COUNTS. Prove the row's statement (the work); the ties are given (YtggfdgidfpkbaaaDoorTie.lean); close each card by the builder's one call (the guide's Derived/Test/ToyasCard.lean, 'card_holds'). Laid BY PROGRAM, IN A SANDBOX (cutbox-door.mjs). By AI agents, Wed Nov 11 2026. No macro, syntax, notation, axiom, sorry.
-/
import Derived.Test.YtggfdgidfpkbaaaDoorRows
import GoSem.ClaimSeven
namespace Go.Proofs.YtggfdgidfpkbaaaDoor
namespace Rows

/-- THE TIED CARD OF 'laws.FnExactReadPage'. -/
def fnExactReadPageCard : Claim7 := { stood := { row := fnExactReadPageRow, standIns := [], harness := (true, "5296d27b2ed36e28d832560f07c4da9d253899e2a5ea22e27e5d221d6daa02c2"), looks := false }, kinds := [], alts := [], laidByText := true, laidKinds := [.sentinel], laidTests := true, laidLooks := .later }
def FnExactReadPageCardSaid : Prop := Claim7.holds Tryd.pinned (.plain (OpenSpec.ofChange fnExactReadPageSpec)) fnExactReadPageCard

/-- THE TIED CARD OF 'laws.FnExactFindRow'. -/
def fnExactFindRowCard : Claim7 := { stood := { row := fnExactFindRowRow, standIns := [], harness := (true, "5296d27b2ed36e28d832560f07c4da9d253899e2a5ea22e27e5d221d6daa02c2"), looks := false }, kinds := [], alts := [], laidByText := true, laidKinds := [.sentinel], laidTests := true, laidLooks := .later }
def FnExactFindRowCardSaid : Prop := Claim7.holds Tryd.pinned (.plain (OpenSpec.ofChange fnExactFindRowSpec)) fnExactFindRowCard

/-- THE TIED CARD OF 'laws.FnExactRowsFrom'. -/
def fnExactRowsFromCard : Claim7 := { stood := { row := fnExactRowsFromRow, standIns := [], harness := (true, "5296d27b2ed36e28d832560f07c4da9d253899e2a5ea22e27e5d221d6daa02c2"), looks := false }, kinds := [], alts := [], laidByText := true, laidKinds := [.sentinel], laidTests := true, laidLooks := .later }
def FnExactRowsFromCardSaid : Prop := Claim7.holds Tryd.pinned (.plain (OpenSpec.ofChange fnExactRowsFromSpec)) fnExactRowsFromCard

/-- THE TIED CARD OF 'laws.FnExactPutInPages'. -/
def fnExactPutInPagesCard : Claim7 := { stood := { row := fnExactPutInPagesRow, standIns := [], harness := (true, "5296d27b2ed36e28d832560f07c4da9d253899e2a5ea22e27e5d221d6daa02c2"), looks := false }, kinds := [], alts := [], laidByText := true, laidKinds := [.sentinel], laidTests := true, laidLooks := .later }
def FnExactPutInPagesCardSaid : Prop := Claim7.holds Tryd.pinned (.plain (OpenSpec.ofChange fnExactPutInPagesSpec)) fnExactPutInPagesCard

/-- THE TIED CARD OF 'laws.FnExactDropFromPages'. -/
def fnExactDropFromPagesCard : Claim7 := { stood := { row := fnExactDropFromPagesRow, standIns := [], harness := (true, "5296d27b2ed36e28d832560f07c4da9d253899e2a5ea22e27e5d221d6daa02c2"), looks := false }, kinds := [], alts := [], laidByText := true, laidKinds := [.sentinel], laidTests := true, laidLooks := .later }
def FnExactDropFromPagesCardSaid : Prop := Claim7.holds Tryd.pinned (.plain (OpenSpec.ofChange fnExactDropFromPagesSpec)) fnExactDropFromPagesCard

/-- THE TIED CARD OF 'laws.FnExactLeastFill'. -/
def fnExactLeastFillCard : Claim7 := { stood := { row := fnExactLeastFillRow, standIns := [], harness := (true, "5296d27b2ed36e28d832560f07c4da9d253899e2a5ea22e27e5d221d6daa02c2"), looks := false }, kinds := [], alts := [], laidByText := true, laidKinds := [.sentinel], laidTests := true, laidLooks := .later }
def FnExactLeastFillCardSaid : Prop := Claim7.holds Tryd.pinned (.plain (OpenSpec.ofChange fnExactLeastFillSpec)) fnExactLeastFillCard

/-- THE SECOND FORM's CARD OF 'laws.FnExactReadPage'. -/
def fnExactReadPageUptoCard : Claim7 := { stood := { row := fnExactReadPageUptoRow, standIns := [], harness := (true, "5296d27b2ed36e28d832560f07c4da9d253899e2a5ea22e27e5d221d6daa02c2"), looks := false }, kinds := [], alts := [], laidByText := true, laidKinds := [.sentinel], laidTests := true, laidLooks := .later }
def FnExactReadPageUptoCardSaid : Prop := Claim7.holds Tryd.pinned (.plain (OpenSpec.upto fnExactReadPageSpec)) fnExactReadPageUptoCard

/-- THE SECOND FORM's CARD OF 'laws.FnExactFindRow'. -/
def fnExactFindRowUptoCard : Claim7 := { stood := { row := fnExactFindRowUptoRow, standIns := [], harness := (true, "5296d27b2ed36e28d832560f07c4da9d253899e2a5ea22e27e5d221d6daa02c2"), looks := false }, kinds := [], alts := [], laidByText := true, laidKinds := [.sentinel], laidTests := true, laidLooks := .later }
def FnExactFindRowUptoCardSaid : Prop := Claim7.holds Tryd.pinned (.plain (OpenSpec.upto fnExactFindRowSpec)) fnExactFindRowUptoCard

/-- THE SECOND FORM's CARD OF 'laws.FnExactRowsFrom'. -/
def fnExactRowsFromUptoCard : Claim7 := { stood := { row := fnExactRowsFromUptoRow, standIns := [], harness := (true, "5296d27b2ed36e28d832560f07c4da9d253899e2a5ea22e27e5d221d6daa02c2"), looks := false }, kinds := [], alts := [], laidByText := true, laidKinds := [.sentinel], laidTests := true, laidLooks := .later }
def FnExactRowsFromUptoCardSaid : Prop := Claim7.holds Tryd.pinned (.plain (OpenSpec.upto fnExactRowsFromSpec)) fnExactRowsFromUptoCard

/-- THE SECOND FORM's CARD OF 'laws.FnExactPutInPages'. -/
def fnExactPutInPagesUptoCard : Claim7 := { stood := { row := fnExactPutInPagesUptoRow, standIns := [], harness := (true, "5296d27b2ed36e28d832560f07c4da9d253899e2a5ea22e27e5d221d6daa02c2"), looks := false }, kinds := [], alts := [], laidByText := true, laidKinds := [.sentinel], laidTests := true, laidLooks := .later }
def FnExactPutInPagesUptoCardSaid : Prop := Claim7.holds Tryd.pinned (.plain (OpenSpec.upto fnExactPutInPagesSpec)) fnExactPutInPagesUptoCard

/-- THE SECOND FORM's CARD OF 'laws.FnExactDropFromPages'. -/
def fnExactDropFromPagesUptoCard : Claim7 := { stood := { row := fnExactDropFromPagesUptoRow, standIns := [], harness := (true, "5296d27b2ed36e28d832560f07c4da9d253899e2a5ea22e27e5d221d6daa02c2"), looks := false }, kinds := [], alts := [], laidByText := true, laidKinds := [.sentinel], laidTests := true, laidLooks := .later }
def FnExactDropFromPagesUptoCardSaid : Prop := Claim7.holds Tryd.pinned (.plain (OpenSpec.upto fnExactDropFromPagesSpec)) fnExactDropFromPagesUptoCard

/-- THE SECOND FORM's CARD OF 'laws.FnExactLeastFill'. -/
def fnExactLeastFillUptoCard : Claim7 := { stood := { row := fnExactLeastFillUptoRow, standIns := [], harness := (true, "5296d27b2ed36e28d832560f07c4da9d253899e2a5ea22e27e5d221d6daa02c2"), looks := false }, kinds := [], alts := [], laidByText := true, laidKinds := [.sentinel], laidTests := true, laidLooks := .later }
def FnExactLeastFillUptoCardSaid : Prop := Claim7.holds Tryd.pinned (.plain (OpenSpec.upto fnExactLeastFillSpec)) fnExactLeastFillUptoCard
end Rows
end Go.Proofs.YtggfdgidfpkbaaaDoor
