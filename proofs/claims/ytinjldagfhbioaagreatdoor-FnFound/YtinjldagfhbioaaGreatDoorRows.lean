/-
  NARROWER THAN 'FOR EVERY INPUT', by the rows' own cells (each row's printed sentence says how): FnFound: laid.
  DERIVED. THE GIVEN ROWS OF THIS SEAT. 1 by the template 'for every input the law returns true; each argument reads behind the call as it read before'; 0 by the template 'total and deterministic' (their statements: YtinjldagfhbioaaGreatDoorTotals.lean).
  GIVEN WITH THE SEED: the statements are not yours to turn. If you find one false, say at which input.
  Laid BY PROGRAM, IN A SANDBOX (cutbox-rows.mjs): the forced cells as the released guide's own fill.sh prints them over the translation 9dfec379e5d0bc58… (all of the seat's roots in one cut). By AI agents, Wed Nov 11 2026. No macro, syntax, notation, axiom, sorry.
-/
import Derived.Test.YtinjldagfhbioaaGreatDoorChecked
import GoSem.Claim
import GoSem.ClaimJoined
import GoSem.ClaimMapViews
import Derived.JoinedTies
import Derived.KernelRfl
namespace Go.Proofs.YtinjldagfhbioaaGreatDoor
/- THE CELL 'sum', in the pinned program and in every row, IS THE sha256 OF THE DUMP (.gsa) THAT YtinjldagfhbioaaGreatDoorProg.lean LOADS. Nothing in Lean hashes anything: it is a label: what it is worth is what the hold of that sum in a sandbox is worth. -/
noncomputable def Tryz.pinned : Pinned := { name := "ytinjldagfhbioaagreatdoor", sum := "9dfec379e5d0bc5885ffb9e1e4778dd02cbe8169377ab3b3c2b2a21bd6dcb0dd", checked := Tryz.checked }
namespace Rows
def none {H : Type} : Left H := { results := [], args := [] }

/- WHAT THE LISTED PACKAGE-LEVEL VARIABLES READ AS WHEN THE CALL BEGINS. Each datum BY PROGRAM (the guide's laid-datum.mjs) off the statement by which the dump's own 'gosem.cut.vars' lays the variable. In a bare row this is a premise. The card (YtinjldagfhbioaaGreatDoorCards.lean) ties it to the program's text. -/
def laid_loop_example_g00158_impl_marks {H : Type} : DataW H := .agg [.agg [.lit (.int .i64 824), .lit (.int .i64 1)], .agg [.lit (.int .i64 807), .lit (.int .i64 202)], .agg [.lit (.int .i64 808), .lit (.int .i64 202)], .agg [.lit (.int .i64 803), .lit (.int .i64 220)], .agg [.lit (.int .i64 817), .lit (.int .i64 220)], .agg [.lit (.int .i64 768), .lit (.int .i64 230)], .agg [.lit (.int .i64 769), .lit (.int .i64 230)], .agg [.lit (.int .i64 770), .lit (.int .i64 230)], .agg [.lit (.int .i64 771), .lit (.int .i64 230)], .agg [.lit (.int .i64 772), .lit (.int .i64 230)], .agg [.lit (.int .i64 774), .lit (.int .i64 230)], .agg [.lit (.int .i64 775), .lit (.int .i64 230)], .agg [.lit (.int .i64 776), .lit (.int .i64 230)], .agg [.lit (.int .i64 778), .lit (.int .i64 230)], .agg [.lit (.int .i64 780), .lit (.int .i64 230)]]
def laid_loop_example_g00158_impl_capitalPairs {H : Type} : DataW H := .agg [.agg [.lit (.int .i64 192), .lit (.int .i64 65), .lit (.int .i64 768)], .agg [.lit (.int .i64 193), .lit (.int .i64 65), .lit (.int .i64 769)], .agg [.lit (.int .i64 194), .lit (.int .i64 65), .lit (.int .i64 770)], .agg [.lit (.int .i64 195), .lit (.int .i64 65), .lit (.int .i64 771)], .agg [.lit (.int .i64 196), .lit (.int .i64 65), .lit (.int .i64 776)], .agg [.lit (.int .i64 197), .lit (.int .i64 65), .lit (.int .i64 778)], .agg [.lit (.int .i64 199), .lit (.int .i64 67), .lit (.int .i64 807)], .agg [.lit (.int .i64 200), .lit (.int .i64 69), .lit (.int .i64 768)], .agg [.lit (.int .i64 201), .lit (.int .i64 69), .lit (.int .i64 769)], .agg [.lit (.int .i64 202), .lit (.int .i64 69), .lit (.int .i64 770)], .agg [.lit (.int .i64 203), .lit (.int .i64 69), .lit (.int .i64 776)], .agg [.lit (.int .i64 204), .lit (.int .i64 73), .lit (.int .i64 768)], .agg [.lit (.int .i64 205), .lit (.int .i64 73), .lit (.int .i64 769)], .agg [.lit (.int .i64 206), .lit (.int .i64 73), .lit (.int .i64 770)], .agg [.lit (.int .i64 207), .lit (.int .i64 73), .lit (.int .i64 776)], .agg [.lit (.int .i64 209), .lit (.int .i64 78), .lit (.int .i64 771)], .agg [.lit (.int .i64 210), .lit (.int .i64 79), .lit (.int .i64 768)], .agg [.lit (.int .i64 211), .lit (.int .i64 79), .lit (.int .i64 769)], .agg [.lit (.int .i64 212), .lit (.int .i64 79), .lit (.int .i64 770)], .agg [.lit (.int .i64 213), .lit (.int .i64 79), .lit (.int .i64 771)], .agg [.lit (.int .i64 214), .lit (.int .i64 79), .lit (.int .i64 776)], .agg [.lit (.int .i64 217), .lit (.int .i64 85), .lit (.int .i64 768)], .agg [.lit (.int .i64 218), .lit (.int .i64 85), .lit (.int .i64 769)], .agg [.lit (.int .i64 219), .lit (.int .i64 85), .lit (.int .i64 770)], .agg [.lit (.int .i64 220), .lit (.int .i64 85), .lit (.int .i64 776)], .agg [.lit (.int .i64 221), .lit (.int .i64 89), .lit (.int .i64 769)]]
def laid_loop_example_g00158_impl_otherPairs {H : Type} : DataW H := .agg [.agg [.lit (.int .i64 255), .lit (.int .i64 121), .lit (.int .i64 776)], .agg [.lit (.int .i64 7844), .lit (.int .i64 194), .lit (.int .i64 769)], .agg [.lit (.int .i64 7845), .lit (.int .i64 226), .lit (.int .i64 769)], .agg [.lit (.int .i64 7779), .lit (.int .i64 115), .lit (.int .i64 803)], .agg [.lit (.int .i64 7785), .lit (.int .i64 7779), .lit (.int .i64 775)]]

/-- 'laws.FnFound': WHATEVER THE INPUT: true; the input reads as it did. -/
def fnFoundSpec : ChangeSpec := { name := "fnFound", vars := ["loop.example/g00158/impl.capitalPairs", "loop.example/g00158/impl.otherPairs", "loop.example/g00158/impl.marks"], fn := fun _ => fun
  | [d, g1, g2, g3] => { results := [.lit (.bool true)], args := [d], vars := [g1, g2, g3] }
  | _ => none }
def fnFoundRow : OpenClaim := { program := "ytinjldagfhbioaagreatdoor", sum := "9dfec379e5d0bc5885ffb9e1e4778dd02cbe8169377ab3b3c2b2a21bd6dcb0dd", func := "loop.example/g00158/laws.FnFound", spec := "fnFound", inPlace := ["internal/bytealg.IndexByteString", "internal/bytealg.IndexString"], unfollowed := true, recurses := true, named := ["loop.example/g00158/impl.capitalPairs", "loop.example/g00158/impl.otherPairs", "loop.example/g00158/impl.marks", "internal/bytealg.MaxLen"], apart := false, laid := [("loop.example/g00158/impl.marks", laid_loop_example_g00158_impl_marks), ("loop.example/g00158/impl.capitalPairs", laid_loop_example_g00158_impl_capitalPairs), ("loop.example/g00158/impl.otherPairs", laid_loop_example_g00158_impl_otherPairs)] }
def FnFoundSaid : Prop := fnFoundRow.holds Tryz.pinned (OpenSpec.ofChange fnFoundSpec)

/-- ITS FALSE NEIGHBOUR: 'it returns false'. Refute it at one input. -/
def fnFoundWrong : ChangeSpec := { name := "fnFound", vars := ["loop.example/g00158/impl.capitalPairs", "loop.example/g00158/impl.otherPairs", "loop.example/g00158/impl.marks"], fn := fun _ => fun
  | [d, g1, g2, g3] => { results := [.lit (.bool false)], args := [d], vars := [g1, g2, g3] }
  | _ => none }
def FnFoundWrongFalsely : Prop := fnFoundRow.holds Tryz.pinned (OpenSpec.ofChange fnFoundWrong)

/- THE SECOND FORM. 'bulk': how many values and letters a reading holds, each counted each time it is reached (what is shared counts as often as it is met; a slice's spare places count too). A statement '..UptoSaid' is the law's where the arguments, and the package variables that the reading takes, are together of bulk at most 1048576: NARROWER than '..Said'. Prove '..Said' where nothing that the law and all that it calls make is longer than what came in: it says more and counts as full. Else prove '..UptoSaid'. A law counts once. -/
mutual
def uptoBulk {H : Type} : DataW H → Nat
  | .lit (.string bytes) => bytes.length + 1
  | .lit _ => 1
  | .nil => 1
  | .ptr d => uptoBulk d + 1
  | .slice elems spare => uptoBulkAll elems + uptoBulkAll spare + 1
  | .agg parts => uptoBulkAll parts + 1
  | .iface _ d => uptoBulk d + 1
  | .map entries => uptoBulkEntries entries + 1
  | .held _ => 1
def uptoBulkAll {H : Type} : List (DataW H) → Nat
  | [] => 0
  | d :: r => uptoBulk d + uptoBulkAll r
def uptoBulkEntries {H : Type} : List (Lit × DataW H) → Nat
  | [] => 0
  | x :: r => uptoBulkEntry x + uptoBulkEntries r
def uptoBulkEntry {H : Type} : Lit × DataW H → Nat
  | (.string bytes, d) => bytes.length + uptoBulk d + 1
  | (_, d) => uptoBulk d + 1
 end
def uptoSmall : (H : Type) → List (DataW H) → Bool := fun _ ds => decide (uptoBulkAll ds ≤ 1048576)
def OpenSpec.upto (s : _root_.Go.ChangeSpec) : _root_.Go.OpenSpec := { _root_.Go.OpenSpec.ofChange s with cond := some uptoSmall }

/-- 'laws.FnFound', WHERE WHAT IT READS IS OF BULK AT MOST 1048576: true; the input reads as it did. -/
def fnFoundUptoRow : OpenClaim := { program := "ytinjldagfhbioaagreatdoor", sum := "9dfec379e5d0bc5885ffb9e1e4778dd02cbe8169377ab3b3c2b2a21bd6dcb0dd", func := "loop.example/g00158/laws.FnFound", spec := "fnFound", inPlace := ["internal/bytealg.IndexByteString", "internal/bytealg.IndexString"], unfollowed := true, recurses := true, named := ["loop.example/g00158/impl.capitalPairs", "loop.example/g00158/impl.otherPairs", "loop.example/g00158/impl.marks", "internal/bytealg.MaxLen"], apart := false, laid := [("loop.example/g00158/impl.marks", laid_loop_example_g00158_impl_marks), ("loop.example/g00158/impl.capitalPairs", laid_loop_example_g00158_impl_capitalPairs), ("loop.example/g00158/impl.otherPairs", laid_loop_example_g00158_impl_otherPairs)], narrowed := true }
def FnFoundUptoSaid : Prop := fnFoundUptoRow.holds Tryz.pinned (OpenSpec.upto fnFoundSpec)

end Rows
end Go.Proofs.YtinjldagfhbioaaGreatDoor
