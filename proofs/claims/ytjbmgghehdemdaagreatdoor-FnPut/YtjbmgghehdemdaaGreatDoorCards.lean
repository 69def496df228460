/-
  DERIVED. GIVEN WITH THE SEED: THE CARDS: each row of YtjbmgghehdemdaaGreatDoorRows.lean that lists a variable, with what it lists TIED to the program's text (the seventh form; the later family's looks); each row that meets fmt, with fmt's text TOLD by the authors' own Lean function (tested against real Go, not proved from fmt's source: count such statements apart). THE CARD IS WHAT COUNTS. Prove the row's statement (the work); the ties are given (YtjbmgghehdemdaaGreatDoorTie.lean); close each card by the builder's one call (the guide's Derived/Test/ToyasCard.lean, 'card_holds'). Laid BY PROGRAM, IN A SANDBOX (cutbox-door.mjs). By AI agents, Wed Nov 11 2026. No macro, syntax, notation, axiom, sorry.
-/
import Derived.Test.YtjbmgghehdemdaaGreatDoorRows
import GoSem.ClaimSeven
namespace Go.Proofs.YtjbmgghehdemdaaGreatDoor
namespace Rows

/-- THE TIED CARD OF 'laws.FnPut'. -/
def fnPutCard : Claim7 := { stood := { row := fnPutRow, standIns := [], harness := (true, "2473b5118496adbd72b09baf9c6abd04d642e0c28cdb43c2c6f690349e558c48"), looks := true }, kinds := [], alts := [], laidByText := true, laidKinds := [.data, .data, .data, .data, .sentinel, .sentinel, .sentinel, .sentinel, .sentinel, .pinned], laidTests := true, laidLooks := .later }
def FnPutCardSaid : Prop := Claim7.holds Tryz.pinned (.plain (OpenSpec.ofChange fnPutSpec)) fnPutCard

/-- THE TIED CARD OF 'laws.FnSynced'. -/
def fnSyncedCard : Claim7 := { stood := { row := fnSyncedRow, standIns := [], harness := (true, "2473b5118496adbd72b09baf9c6abd04d642e0c28cdb43c2c6f690349e558c48"), looks := true }, kinds := [], alts := [], laidByText := true, laidKinds := [.data, .handle, .data, .data, .data, .sentinel, .sentinel, .sentinel, .sentinel, .sentinel, .pinned], laidTests := true, laidLooks := .later }
def FnSyncedCardSaid : Prop := Claim7.holds Tryz.pinned (.plain (OpenSpec.ofChange fnSyncedSpec)) fnSyncedCard

/-- THE TIED CARD OF 'laws.FnRanged'. -/
def fnRangedCard : Claim7 := { stood := { row := fnRangedRow, standIns := [], harness := (true, "2473b5118496adbd72b09baf9c6abd04d642e0c28cdb43c2c6f690349e558c48"), looks := true }, kinds := [], alts := [], laidByText := true, laidKinds := [.data, .data, .data, .data, .sentinel, .sentinel, .sentinel, .sentinel, .sentinel, .pinned], laidTests := true, laidLooks := .later }
def FnRangedCardSaid : Prop := Claim7.holds Tryz.pinned (.plain (OpenSpec.ofChange fnRangedSpec)) fnRangedCard

/-- THE SECOND FORM's CARD OF 'laws.FnPut'. -/
def fnPutUptoCard : Claim7 := { stood := { row := fnPutUptoRow, standIns := [], harness := (true, "2473b5118496adbd72b09baf9c6abd04d642e0c28cdb43c2c6f690349e558c48"), looks := true }, kinds := [], alts := [], laidByText := true, laidKinds := [.data, .data, .data, .data, .sentinel, .sentinel, .sentinel, .sentinel, .sentinel, .pinned], laidTests := true, laidLooks := .later }
def FnPutUptoCardSaid : Prop := Claim7.holds Tryz.pinned (.plain (OpenSpec.upto fnPutSpec)) fnPutUptoCard

/-- THE SECOND FORM's CARD OF 'laws.FnSynced'. -/
def fnSyncedUptoCard : Claim7 := { stood := { row := fnSyncedUptoRow, standIns := [], harness := (true, "2473b5118496adbd72b09baf9c6abd04d642e0c28cdb43c2c6f690349e558c48"), looks := true }, kinds := [], alts := [], laidByText := true, laidKinds := [.data, .handle, .data, .data, .data, .sentinel, .sentinel, .sentinel, .sentinel, .sentinel, .pinned], laidTests := true, laidLooks := .later }
def FnSyncedUptoCardSaid : Prop := Claim7.holds Tryz.pinned (.plain (OpenSpec.upto fnSyncedSpec)) fnSyncedUptoCard

/-- THE SECOND FORM's CARD OF 'laws.FnRanged'. -/
def fnRangedUptoCard : Claim7 := { stood := { row := fnRangedUptoRow, standIns := [], harness := (true, "2473b5118496adbd72b09baf9c6abd04d642e0c28cdb43c2c6f690349e558c48"), looks := true }, kinds := [], alts := [], laidByText := true, laidKinds := [.data, .data, .data, .data, .sentinel, .sentinel, .sentinel, .sentinel, .sentinel, .pinned], laidTests := true, laidLooks := .later }
def FnRangedUptoCardSaid : Prop := Claim7.holds Tryz.pinned (.plain (OpenSpec.upto fnRangedSpec)) fnRangedUptoCard
end Rows
end Go.Proofs.YtjbmgghehdemdaaGreatDoor
