/-
  DERIVED. GIVEN WITH THE SEED: THE PROGRAM's TIES (one call each: nine closed facts by the kernel) AND EACH ROW's TIE, after the 31st guide's Derived/Test/Toyas{Tie, Card}.lean. No idea stands in it: it is a product of the set-up. Laid BY PROGRAM, IN A SANDBOX (cutbox-door.mjs). By AI agents, Wed Nov 11 2026. No macro, syntax, notation, axiom, sorry.
-/
import Derived.Test.YtlhpkjhinikmmadDoorRows
import Derived.LaidByTextLater
import Derived.SevenTiedAt
import Derived.LaidSub
import Derived.LaidOnce
namespace Go.Proofs.YtlhpkjhinikmmadDoor
open Go
set_option maxRecDepth 100000
theorem seatTie1 : Tryd.prog.laidByTextLater [("loop.example/g00158/impl.marks", Rows.laid_loop_example_g00158_impl_marks), ("loop.example/g00158/impl.capitalPairs", Rows.laid_loop_example_g00158_impl_capitalPairs), ("loop.example/g00158/impl.otherPairs", Rows.laid_loop_example_g00158_impl_otherPairs)] [.data, .data, .data] true :=
  Program.laidByTextLater_by_one 70 8 79 (by kernel_rfl) (by kernel_rfl) (by kernel_rfl) (by kernel_rfl) (by kernel_rfl) (by kernel_rfl) (fun _ _ => by kernel_rfl)
theorem noOwnUnsafe : Tryd.pinned.checked.prog.headLifts.contains "ownunsafe" = false := by kernel_rfl
theorem tie : Tryd.prog.laidByTextLater [("loop.example/g00158/impl.marks", Rows.laid_loop_example_g00158_impl_marks)] [.data] true :=
  Program.laidByTextLater.sub seatTie1 ["loop.example/g00158/impl.marks"] (by kernel_rfl) (by kernel_rfl)
theorem fnExactClassOf_row_tie : Rows.fnExactClassOfRow.laidByTextAt .later Tryd.pinned [.data] true :=
  OpenClaim.laidByTextAt_later rfl rfl tie noOwnUnsafe
theorem fnExactSortMarks_row_tie : Rows.fnExactSortMarksRow.laidByTextAt .later Tryd.pinned [.data] true :=
  OpenClaim.laidByTextAt_later rfl rfl tie noOwnUnsafe
theorem tie2 : Tryd.prog.laidByTextLater [("loop.example/g00158/impl.capitalPairs", Rows.laid_loop_example_g00158_impl_capitalPairs), ("loop.example/g00158/impl.otherPairs", Rows.laid_loop_example_g00158_impl_otherPairs)] [.data, .data] true :=
  Program.laidByTextLater.sub seatTie1 ["loop.example/g00158/impl.capitalPairs", "loop.example/g00158/impl.otherPairs"] (by kernel_rfl) (by kernel_rfl)
theorem fnExactApartOf_row_tie : Rows.fnExactApartOfRow.laidByTextAt .later Tryd.pinned [.data, .data] true :=
  OpenClaim.laidByTextAt_later rfl rfl tie2 noOwnUnsafe
theorem fnExactTogetherOf_row_tie : Rows.fnExactTogetherOfRow.laidByTextAt .later Tryd.pinned [.data, .data] true :=
  OpenClaim.laidByTextAt_later rfl rfl tie2 noOwnUnsafe
theorem tie3 : Tryd.prog.laidByTextLater [("loop.example/g00158/impl.marks", Rows.laid_loop_example_g00158_impl_marks), ("loop.example/g00158/impl.capitalPairs", Rows.laid_loop_example_g00158_impl_capitalPairs), ("loop.example/g00158/impl.otherPairs", Rows.laid_loop_example_g00158_impl_otherPairs)] [.data, .data, .data] true :=
  Program.laidByTextLater.sub seatTie1 ["loop.example/g00158/impl.marks", "loop.example/g00158/impl.capitalPairs", "loop.example/g00158/impl.otherPairs"] (by kernel_rfl) (by kernel_rfl)
theorem fnExactNormalD_row_tie : Rows.fnExactNormalDRow.laidByTextAt .later Tryd.pinned [.data, .data, .data] true :=
  OpenClaim.laidByTextAt_later rfl rfl tie3 noOwnUnsafe
theorem fnExactNormalC_row_tie : Rows.fnExactNormalCRow.laidByTextAt .later Tryd.pinned [.data, .data, .data] true :=
  OpenClaim.laidByTextAt_later rfl rfl tie3 noOwnUnsafe
theorem fnExactClassOfUpto_row_tie : Rows.fnExactClassOfUptoRow.laidByTextAt .later Tryd.pinned [.data] true :=
  OpenClaim.laidByTextAt_later rfl rfl tie noOwnUnsafe
theorem fnExactApartOfUpto_row_tie : Rows.fnExactApartOfUptoRow.laidByTextAt .later Tryd.pinned [.data, .data] true :=
  OpenClaim.laidByTextAt_later rfl rfl tie2 noOwnUnsafe
theorem fnExactTogetherOfUpto_row_tie : Rows.fnExactTogetherOfUptoRow.laidByTextAt .later Tryd.pinned [.data, .data] true :=
  OpenClaim.laidByTextAt_later rfl rfl tie2 noOwnUnsafe
theorem fnExactSortMarksUpto_row_tie : Rows.fnExactSortMarksUptoRow.laidByTextAt .later Tryd.pinned [.data] true :=
  OpenClaim.laidByTextAt_later rfl rfl tie noOwnUnsafe
theorem fnExactNormalDUpto_row_tie : Rows.fnExactNormalDUptoRow.laidByTextAt .later Tryd.pinned [.data, .data, .data] true :=
  OpenClaim.laidByTextAt_later rfl rfl tie3 noOwnUnsafe
theorem fnExactNormalCUpto_row_tie : Rows.fnExactNormalCUptoRow.laidByTextAt .later Tryd.pinned [.data, .data, .data] true :=
  OpenClaim.laidByTextAt_later rfl rfl tie3 noOwnUnsafe
end Go.Proofs.YtlhpkjhinikmmadDoor
