/-
  DERIVED. GIVEN WITH THE SEED: THE PROGRAM's TIES (one call each: nine closed facts by the kernel) AND EACH ROW's TIE, after the 31st guide's Derived/Test/Toyas{Tie, Card}.lean. No idea stands in it: it is a product of the set-up. Laid BY PROGRAM, IN A SANDBOX (cutbox-door.mjs). By AI agents, Wed Nov 11 2026. No macro, syntax, notation, axiom, sorry.
-/
import Derived.Test.YtjbmgghehdemdaaGreatDoorRows
import Derived.LaidByTextLater
import Derived.SevenTiedAt
import Derived.LaidSub
import Derived.LaidOnce
namespace Go.Proofs.YtjbmgghehdemdaaGreatDoor
open Go
set_option maxRecDepth 100000
theorem seatTie1 : Tryz.prog.laidByTextLater [("unicode/utf8.acceptRanges", Rows.laid_unicode_utf8_acceptRanges), ("errors.errorType", Rows.laid_errors_errorType), ("loop.example/g00158/impl.marks", Rows.laid_loop_example_g00158_impl_marks), ("loop.example/g00158/impl.capitalPairs", Rows.laid_loop_example_g00158_impl_capitalPairs), ("loop.example/g00158/impl.otherPairs", Rows.laid_loop_example_g00158_impl_otherPairs), ("loop.example/g00158/impl.errPageLacks", Rows.laid_loop_example_g00158_impl_errPageLacks), ("loop.example/g00158/impl.errBad", Rows.laid_loop_example_g00158_impl_errBad), ("loop.example/g00158/impl.errLong", Rows.laid_loop_example_g00158_impl_errLong), ("loop.example/g00158/impl.errFull", Rows.laid_loop_example_g00158_impl_errFull), ("loop.example/g00158/impl.errNone", Rows.laid_loop_example_g00158_impl_errNone)] [.data, .handle, .data, .data, .data, .sentinel, .sentinel, .sentinel, .sentinel, .sentinel] true :=
  Program.laidByTextLater_by_one 182 8 79 (by kernel_rfl) (by kernel_rfl) (by kernel_rfl) (by kernel_rfl) (by kernel_rfl) (by kernel_rfl) (fun _ _ => by kernel_rfl)
theorem pin_laid_unicode_utf8_first : Tryz.pinned.checked.prog.pinnedFits "unicode/utf8.first" = true := by kernel_rfl
theorem noOwnUnsafe : Tryz.pinned.checked.prog.headLifts.contains "ownunsafe" = false := by kernel_rfl
theorem fits1 : Tryz.pinned.checked.prog.listedFits [("unicode/utf8.acceptRanges", Rows.laid_unicode_utf8_acceptRanges), ("loop.example/g00158/impl.marks", Rows.laid_loop_example_g00158_impl_marks), ("loop.example/g00158/impl.capitalPairs", Rows.laid_loop_example_g00158_impl_capitalPairs), ("loop.example/g00158/impl.otherPairs", Rows.laid_loop_example_g00158_impl_otherPairs), ("loop.example/g00158/impl.errPageLacks", Rows.laid_loop_example_g00158_impl_errPageLacks), ("loop.example/g00158/impl.errBad", Rows.laid_loop_example_g00158_impl_errBad), ("loop.example/g00158/impl.errLong", Rows.laid_loop_example_g00158_impl_errLong), ("loop.example/g00158/impl.errFull", Rows.laid_loop_example_g00158_impl_errFull), ("loop.example/g00158/impl.errNone", Rows.laid_loop_example_g00158_impl_errNone), ("unicode/utf8.first", Rows.laid_unicode_utf8_first)] = true := by
  unfold Program.listedFits
  rw [noOwnUnsafe]
  kernel_rfl
theorem tie : Tryz.prog.laidByTextLater [("unicode/utf8.acceptRanges", Rows.laid_unicode_utf8_acceptRanges), ("loop.example/g00158/impl.marks", Rows.laid_loop_example_g00158_impl_marks), ("loop.example/g00158/impl.capitalPairs", Rows.laid_loop_example_g00158_impl_capitalPairs), ("loop.example/g00158/impl.otherPairs", Rows.laid_loop_example_g00158_impl_otherPairs), ("loop.example/g00158/impl.errPageLacks", Rows.laid_loop_example_g00158_impl_errPageLacks), ("loop.example/g00158/impl.errBad", Rows.laid_loop_example_g00158_impl_errBad), ("loop.example/g00158/impl.errLong", Rows.laid_loop_example_g00158_impl_errLong), ("loop.example/g00158/impl.errFull", Rows.laid_loop_example_g00158_impl_errFull), ("loop.example/g00158/impl.errNone", Rows.laid_loop_example_g00158_impl_errNone)] [.data, .data, .data, .data, .sentinel, .sentinel, .sentinel, .sentinel, .sentinel] true :=
  Program.laidByTextLater.sub seatTie1 ["unicode/utf8.acceptRanges", "loop.example/g00158/impl.marks", "loop.example/g00158/impl.capitalPairs", "loop.example/g00158/impl.otherPairs", "loop.example/g00158/impl.errPageLacks", "loop.example/g00158/impl.errBad", "loop.example/g00158/impl.errLong", "loop.example/g00158/impl.errFull", "loop.example/g00158/impl.errNone"] (by kernel_rfl) (by kernel_rfl)
theorem fnPut_row_tie : Rows.fnPutRow.laidByTextAt .later Tryz.pinned [.data, .data, .data, .data, .sentinel, .sentinel, .sentinel, .sentinel, .sentinel, .pinned] true :=
  OpenClaim.laidByTextAt_pinned rfl rfl tie rfl rfl rfl rfl (fun y hy _e => by
    simp only [Rows.fnPutRow, List.zip_cons_cons, List.zip_nil_right, List.mem_cons, List.mem_nil_iff, or_false] at hy
    rcases hy with rfl | rfl | rfl | rfl | rfl | rfl | rfl | rfl | rfl | rfl
    · cases _e
    · cases _e
    · cases _e
    · cases _e
    · cases _e
    · cases _e
    · cases _e
    · cases _e
    · cases _e
    · exact ⟨pin_laid_unicode_utf8_first, by kernel_rfl⟩) fits1
theorem fnRanged_row_tie : Rows.fnRangedRow.laidByTextAt .later Tryz.pinned [.data, .data, .data, .data, .sentinel, .sentinel, .sentinel, .sentinel, .sentinel, .pinned] true :=
  OpenClaim.laidByTextAt_pinned rfl rfl tie rfl rfl rfl rfl (fun y hy _e => by
    simp only [Rows.fnRangedRow, List.zip_cons_cons, List.zip_nil_right, List.mem_cons, List.mem_nil_iff, or_false] at hy
    rcases hy with rfl | rfl | rfl | rfl | rfl | rfl | rfl | rfl | rfl | rfl
    · cases _e
    · cases _e
    · cases _e
    · cases _e
    · cases _e
    · cases _e
    · cases _e
    · cases _e
    · cases _e
    · exact ⟨pin_laid_unicode_utf8_first, by kernel_rfl⟩) fits1
theorem fits2 : Tryz.pinned.checked.prog.listedFits [("unicode/utf8.acceptRanges", Rows.laid_unicode_utf8_acceptRanges), ("errors.errorType", Rows.laid_errors_errorType), ("loop.example/g00158/impl.marks", Rows.laid_loop_example_g00158_impl_marks), ("loop.example/g00158/impl.capitalPairs", Rows.laid_loop_example_g00158_impl_capitalPairs), ("loop.example/g00158/impl.otherPairs", Rows.laid_loop_example_g00158_impl_otherPairs), ("loop.example/g00158/impl.errPageLacks", Rows.laid_loop_example_g00158_impl_errPageLacks), ("loop.example/g00158/impl.errBad", Rows.laid_loop_example_g00158_impl_errBad), ("loop.example/g00158/impl.errLong", Rows.laid_loop_example_g00158_impl_errLong), ("loop.example/g00158/impl.errFull", Rows.laid_loop_example_g00158_impl_errFull), ("loop.example/g00158/impl.errNone", Rows.laid_loop_example_g00158_impl_errNone), ("unicode/utf8.first", Rows.laid_unicode_utf8_first)] = true := by
  unfold Program.listedFits
  rw [noOwnUnsafe]
  kernel_rfl
theorem tie2 : Tryz.prog.laidByTextLater [("unicode/utf8.acceptRanges", Rows.laid_unicode_utf8_acceptRanges), ("errors.errorType", Rows.laid_errors_errorType), ("loop.example/g00158/impl.marks", Rows.laid_loop_example_g00158_impl_marks), ("loop.example/g00158/impl.capitalPairs", Rows.laid_loop_example_g00158_impl_capitalPairs), ("loop.example/g00158/impl.otherPairs", Rows.laid_loop_example_g00158_impl_otherPairs), ("loop.example/g00158/impl.errPageLacks", Rows.laid_loop_example_g00158_impl_errPageLacks), ("loop.example/g00158/impl.errBad", Rows.laid_loop_example_g00158_impl_errBad), ("loop.example/g00158/impl.errLong", Rows.laid_loop_example_g00158_impl_errLong), ("loop.example/g00158/impl.errFull", Rows.laid_loop_example_g00158_impl_errFull), ("loop.example/g00158/impl.errNone", Rows.laid_loop_example_g00158_impl_errNone)] [.data, .handle, .data, .data, .data, .sentinel, .sentinel, .sentinel, .sentinel, .sentinel] true :=
  Program.laidByTextLater.sub seatTie1 ["unicode/utf8.acceptRanges", "errors.errorType", "loop.example/g00158/impl.marks", "loop.example/g00158/impl.capitalPairs", "loop.example/g00158/impl.otherPairs", "loop.example/g00158/impl.errPageLacks", "loop.example/g00158/impl.errBad", "loop.example/g00158/impl.errLong", "loop.example/g00158/impl.errFull", "loop.example/g00158/impl.errNone"] (by kernel_rfl) (by kernel_rfl)
theorem fnSynced_row_tie : Rows.fnSyncedRow.laidByTextAt .later Tryz.pinned [.data, .handle, .data, .data, .data, .sentinel, .sentinel, .sentinel, .sentinel, .sentinel, .pinned] true :=
  OpenClaim.laidByTextAt_pinned rfl rfl tie2 rfl rfl rfl rfl (fun y hy _e => by
    simp only [Rows.fnSyncedRow, List.zip_cons_cons, List.zip_nil_right, List.mem_cons, List.mem_nil_iff, or_false] at hy
    rcases hy with rfl | rfl | rfl | rfl | rfl | rfl | rfl | rfl | rfl | rfl | rfl
    · cases _e
    · cases _e
    · cases _e
    · cases _e
    · cases _e
    · cases _e
    · cases _e
    · cases _e
    · cases _e
    · cases _e
    · exact ⟨pin_laid_unicode_utf8_first, by kernel_rfl⟩) fits2
theorem fnPutUpto_row_tie : Rows.fnPutUptoRow.laidByTextAt .later Tryz.pinned [.data, .data, .data, .data, .sentinel, .sentinel, .sentinel, .sentinel, .sentinel, .pinned] true :=
  OpenClaim.laidByTextAt_pinned rfl rfl tie rfl rfl rfl rfl (fun y hy _e => by
    simp only [Rows.fnPutUptoRow, List.zip_cons_cons, List.zip_nil_right, List.mem_cons, List.mem_nil_iff, or_false] at hy
    rcases hy with rfl | rfl | rfl | rfl | rfl | rfl | rfl | rfl | rfl | rfl
    · cases _e
    · cases _e
    · cases _e
    · cases _e
    · cases _e
    · cases _e
    · cases _e
    · cases _e
    · cases _e
    · exact ⟨pin_laid_unicode_utf8_first, by kernel_rfl⟩) fits1
theorem fnSyncedUpto_row_tie : Rows.fnSyncedUptoRow.laidByTextAt .later Tryz.pinned [.data, .handle, .data, .data, .data, .sentinel, .sentinel, .sentinel, .sentinel, .sentinel, .pinned] true :=
  OpenClaim.laidByTextAt_pinned rfl rfl tie2 rfl rfl rfl rfl (fun y hy _e => by
    simp only [Rows.fnSyncedUptoRow, List.zip_cons_cons, List.zip_nil_right, List.mem_cons, List.mem_nil_iff, or_false] at hy
    rcases hy with rfl | rfl | rfl | rfl | rfl | rfl | rfl | rfl | rfl | rfl | rfl
    · cases _e
    · cases _e
    · cases _e
    · cases _e
    · cases _e
    · cases _e
    · cases _e
    · cases _e
    · cases _e
    · cases _e
    · exact ⟨pin_laid_unicode_utf8_first, by kernel_rfl⟩) fits2
theorem fnRangedUpto_row_tie : Rows.fnRangedUptoRow.laidByTextAt .later Tryz.pinned [.data, .data, .data, .data, .sentinel, .sentinel, .sentinel, .sentinel, .sentinel, .pinned] true :=
  OpenClaim.laidByTextAt_pinned rfl rfl tie rfl rfl rfl rfl (fun y hy _e => by
    simp only [Rows.fnRangedUptoRow, List.zip_cons_cons, List.zip_nil_right, List.mem_cons, List.mem_nil_iff, or_false] at hy
    rcases hy with rfl | rfl | rfl | rfl | rfl | rfl | rfl | rfl | rfl | rfl
    · cases _e
    · cases _e
    · cases _e
    · cases _e
    · cases _e
    · cases _e
    · cases _e
    · cases _e
    · cases _e
    · exact ⟨pin_laid_unicode_utf8_first, by kernel_rfl⟩) fits1
end Go.Proofs.YtjbmgghehdemdaaGreatDoor
