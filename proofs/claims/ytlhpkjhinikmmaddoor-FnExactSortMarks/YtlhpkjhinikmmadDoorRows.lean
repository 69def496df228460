/-
  NARROWER THAN 'FOR EVERY INPUT', by the rows' own cells (each row's printed sentence says how): FnExactClassOf: laid · FnExactApartOf: laid · FnExactTogetherOf: laid · FnExactSortMarks: laid · FnExactNormalD: laid · FnExactNormalC: laid.
  DERIVED. THE GIVEN ROWS OF THIS SEAT. 6 by the template 'for every input the law returns true; each argument reads behind the call as it read before'; 0 by the template 'total and deterministic' (their statements: YtlhpkjhinikmmadDoorTotals.lean).
  GIVEN WITH THE SEED: the statements are not yours to turn. If you find one false, say at which input.
  Laid BY PROGRAM, IN A SANDBOX (cutbox-rows.mjs): the forced cells as the released guide's own fill.sh prints them over the translation b447f1ff7a8f3317… (all of the seat's roots in one cut). By AI agents, Wed Nov 11 2026. No macro, syntax, notation, axiom, sorry.
-/
import Derived.Test.YtlhpkjhinikmmadDoorChecked
import GoSem.Claim
import GoSem.ClaimJoined
import GoSem.ClaimMapViews
import Derived.JoinedTies
import Derived.KernelRfl
namespace Go.Proofs.YtlhpkjhinikmmadDoor
/- THE CELL 'sum', in the pinned program and in every row, IS THE sha256 OF THE DUMP (.gsa) THAT YtlhpkjhinikmmadDoorProg.lean LOADS. Nothing in Lean hashes anything: it is a label: what it is worth is what the hold of that sum in a sandbox is worth. -/
noncomputable def Tryd.pinned : Pinned := { name := "ytlhpkjhinikmmaddoor", sum := "b447f1ff7a8f331710bad2610c2ad67b62237aa3a646bea0746a4f9c02c05328", checked := Tryd.checked }
namespace Rows
def none {H : Type} : Left H := { results := [], args := [] }

/- WHAT THE LISTED PACKAGE-LEVEL VARIABLES READ AS WHEN THE CALL BEGINS. Each datum BY PROGRAM (the guide's laid-datum.mjs) off the statement by which the dump's own 'gosem.cut.vars' lays the variable. In a bare row this is a premise. The card (YtlhpkjhinikmmadDoorCards.lean) ties it to the program's text. -/
def laid_loop_example_g00158_impl_marks {H : Type} : DataW H := .agg [.agg [.lit (.int .i64 824), .lit (.int .i64 1)], .agg [.lit (.int .i64 807), .lit (.int .i64 202)], .agg [.lit (.int .i64 808), .lit (.int .i64 202)], .agg [.lit (.int .i64 803), .lit (.int .i64 220)], .agg [.lit (.int .i64 817), .lit (.int .i64 220)], .agg [.lit (.int .i64 768), .lit (.int .i64 230)], .agg [.lit (.int .i64 769), .lit (.int .i64 230)], .agg [.lit (.int .i64 770), .lit (.int .i64 230)], .agg [.lit (.int .i64 771), .lit (.int .i64 230)], .agg [.lit (.int .i64 772), .lit (.int .i64 230)], .agg [.lit (.int .i64 774), .lit (.int .i64 230)], .agg [.lit (.int .i64 775), .lit (.int .i64 230)], .agg [.lit (.int .i64 776), .lit (.int .i64 230)], .agg [.lit (.int .i64 778), .lit (.int .i64 230)], .agg [.lit (.int .i64 780), .lit (.int .i64 230)]]
def laid_loop_example_g00158_impl_capitalPairs {H : Type} : DataW H := .agg [.agg [.lit (.int .i64 192), .lit (.int .i64 65), .lit (.int .i64 768)], .agg [.lit (.int .i64 193), .lit (.int .i64 65), .lit (.int .i64 769)], .agg [.lit (.int .i64 194), .lit (.int .i64 65), .lit (.int .i64 770)], .agg [.lit (.int .i64 195), .lit (.int .i64 65), .lit (.int .i64 771)], .agg [.lit (.int .i64 196), .lit (.int .i64 65), .lit (.int .i64 776)], .agg [.lit (.int .i64 197), .lit (.int .i64 65), .lit (.int .i64 778)], .agg [.lit (.int .i64 199), .lit (.int .i64 67), .lit (.int .i64 807)], .agg [.lit (.int .i64 200), .lit (.int .i64 69), .lit (.int .i64 768)], .agg [.lit (.int .i64 201), .lit (.int .i64 69), .lit (.int .i64 769)], .agg [.lit (.int .i64 202), .lit (.int .i64 69), .lit (.int .i64 770)], .agg [.lit (.int .i64 203), .lit (.int .i64 69), .lit (.int .i64 776)], .agg [.lit (.int .i64 204), .lit (.int .i64 73), .lit (.int .i64 768)], .agg [.lit (.int .i64 205), .lit (.int .i64 73), .lit (.int .i64 769)], .agg [.lit (.int .i64 206), .lit (.int .i64 73), .lit (.int .i64 770)], .agg [.lit (.int .i64 207), .lit (.int .i64 73), .lit (.int .i64 776)], .agg [.lit (.int .i64 209), .lit (.int .i64 78), .lit (.int .i64 771)], .agg [.lit (.int .i64 210), .lit (.int .i64 79), .lit (.int .i64 768)], .agg [.lit (.int .i64 211), .lit (.int .i64 79), .lit (.int .i64 769)], .agg [.lit (.int .i64 212), .lit (.int .i64 79), .lit (.int .i64 770)], .agg [.lit (.int .i64 213), .lit (.int .i64 79), .lit (.int .i64 771)], .agg [.lit (.int .i64 214), .lit (.int .i64 79), .lit (.int .i64 776)], .agg [.lit (.int .i64 217), .lit (.int .i64 85), .lit (.int .i64 768)], .agg [.lit (.int .i64 218), .lit (.int .i64 85), .lit (.int .i64 769)], .agg [.lit (.int .i64 219), .lit (.int .i64 85), .lit (.int .i64 770)], .agg [.lit (.int .i64 220), .lit (.int .i64 85), .lit (.int .i64 776)], .agg [.lit (.int .i64 221), .lit (.int .i64 89), .lit (.int .i64 769)]]
def laid_loop_example_g00158_impl_otherPairs {H : Type} : DataW H := .agg [.agg [.lit (.int .i64 255), .lit (.int .i64 121), .lit (.int .i64 776)], .agg [.lit (.int .i64 7844), .lit (.int .i64 194), .lit (.int .i64 769)], .agg [.lit (.int .i64 7845), .lit (.int .i64 226), .lit (.int .i64 769)], .agg [.lit (.int .i64 7779), .lit (.int .i64 115), .lit (.int .i64 803)], .agg [.lit (.int .i64 7785), .lit (.int .i64 7779), .lit (.int .i64 775)]]

/-- 'laws.FnExactClassOf': WHATEVER THE INPUT: true; the input reads as it did. -/
def fnExactClassOfSpec : ChangeSpec := { name := "fnExactClassOf", vars := ["loop.example/g00158/impl.marks"], fn := fun _ => fun
  | [d, g1] => { results := [.lit (.bool true)], args := [d], vars := [g1] }
  | _ => none }
def fnExactClassOfRow : OpenClaim := { program := "ytlhpkjhinikmmaddoor", sum := "b447f1ff7a8f331710bad2610c2ad67b62237aa3a646bea0746a4f9c02c05328", func := "loop.example/g00158/laws.FnExactClassOf", spec := "fnExactClassOf", named := ["loop.example/g00158/impl.marks"], apart := false, laid := [("loop.example/g00158/impl.marks", laid_loop_example_g00158_impl_marks)] }
def FnExactClassOfSaid : Prop := fnExactClassOfRow.holds Tryd.pinned (OpenSpec.ofChange fnExactClassOfSpec)

/-- ITS FALSE NEIGHBOUR: 'it returns false'. Refute it at one input. -/
def fnExactClassOfWrong : ChangeSpec := { name := "fnExactClassOf", vars := ["loop.example/g00158/impl.marks"], fn := fun _ => fun
  | [d, g1] => { results := [.lit (.bool false)], args := [d], vars := [g1] }
  | _ => none }
def FnExactClassOfWrongFalsely : Prop := fnExactClassOfRow.holds Tryd.pinned (OpenSpec.ofChange fnExactClassOfWrong)

/-- 'laws.FnExactApartOf': WHATEVER THE INPUT: true; the input reads as it did. -/
def fnExactApartOfSpec : ChangeSpec := { name := "fnExactApartOf", vars := ["loop.example/g00158/impl.capitalPairs", "loop.example/g00158/impl.otherPairs"], fn := fun _ => fun
  | [d, g1, g2] => { results := [.lit (.bool true)], args := [d], vars := [g1, g2] }
  | _ => none }
def fnExactApartOfRow : OpenClaim := { program := "ytlhpkjhinikmmaddoor", sum := "b447f1ff7a8f331710bad2610c2ad67b62237aa3a646bea0746a4f9c02c05328", func := "loop.example/g00158/laws.FnExactApartOf", spec := "fnExactApartOf", named := ["loop.example/g00158/impl.capitalPairs", "loop.example/g00158/impl.otherPairs"], apart := false, laid := [("loop.example/g00158/impl.capitalPairs", laid_loop_example_g00158_impl_capitalPairs), ("loop.example/g00158/impl.otherPairs", laid_loop_example_g00158_impl_otherPairs)] }
def FnExactApartOfSaid : Prop := fnExactApartOfRow.holds Tryd.pinned (OpenSpec.ofChange fnExactApartOfSpec)

/-- ITS FALSE NEIGHBOUR: 'it returns false'. Refute it at one input. -/
def fnExactApartOfWrong : ChangeSpec := { name := "fnExactApartOf", vars := ["loop.example/g00158/impl.capitalPairs", "loop.example/g00158/impl.otherPairs"], fn := fun _ => fun
  | [d, g1, g2] => { results := [.lit (.bool false)], args := [d], vars := [g1, g2] }
  | _ => none }
def FnExactApartOfWrongFalsely : Prop := fnExactApartOfRow.holds Tryd.pinned (OpenSpec.ofChange fnExactApartOfWrong)

/-- 'laws.FnExactTogetherOf': WHATEVER THE INPUT: true; the input reads as it did. -/
def fnExactTogetherOfSpec : ChangeSpec := { name := "fnExactTogetherOf", vars := ["loop.example/g00158/impl.capitalPairs", "loop.example/g00158/impl.otherPairs"], fn := fun _ => fun
  | [d1, d2, g1, g2] => { results := [.lit (.bool true)], args := [d1, d2], vars := [g1, g2] }
  | _ => none }
def fnExactTogetherOfRow : OpenClaim := { program := "ytlhpkjhinikmmaddoor", sum := "b447f1ff7a8f331710bad2610c2ad67b62237aa3a646bea0746a4f9c02c05328", func := "loop.example/g00158/laws.FnExactTogetherOf", spec := "fnExactTogetherOf", named := ["loop.example/g00158/impl.capitalPairs", "loop.example/g00158/impl.otherPairs"], apart := false, laid := [("loop.example/g00158/impl.capitalPairs", laid_loop_example_g00158_impl_capitalPairs), ("loop.example/g00158/impl.otherPairs", laid_loop_example_g00158_impl_otherPairs)] }
def FnExactTogetherOfSaid : Prop := fnExactTogetherOfRow.holds Tryd.pinned (OpenSpec.ofChange fnExactTogetherOfSpec)

/-- ITS FALSE NEIGHBOUR: 'it returns false'. Refute it at one input. -/
def fnExactTogetherOfWrong : ChangeSpec := { name := "fnExactTogetherOf", vars := ["loop.example/g00158/impl.capitalPairs", "loop.example/g00158/impl.otherPairs"], fn := fun _ => fun
  | [d1, d2, g1, g2] => { results := [.lit (.bool false)], args := [d1, d2], vars := [g1, g2] }
  | _ => none }
def FnExactTogetherOfWrongFalsely : Prop := fnExactTogetherOfRow.holds Tryd.pinned (OpenSpec.ofChange fnExactTogetherOfWrong)

/-- 'laws.FnExactSortMarks': WHATEVER THE INPUT: true; the input reads as it did. -/
def fnExactSortMarksSpec : ChangeSpec := { name := "fnExactSortMarks", vars := ["loop.example/g00158/impl.marks"], fn := fun _ => fun
  | [d, g1] => { results := [.lit (.bool true)], args := [d], vars := [g1] }
  | _ => none }
def fnExactSortMarksRow : OpenClaim := { program := "ytlhpkjhinikmmaddoor", sum := "b447f1ff7a8f331710bad2610c2ad67b62237aa3a646bea0746a4f9c02c05328", func := "loop.example/g00158/laws.FnExactSortMarks", spec := "fnExactSortMarks", unfollowed := true, recurses := true, named := ["loop.example/g00158/impl.marks"], apart := false, laid := [("loop.example/g00158/impl.marks", laid_loop_example_g00158_impl_marks)] }
def FnExactSortMarksSaid : Prop := fnExactSortMarksRow.holds Tryd.pinned (OpenSpec.ofChange fnExactSortMarksSpec)

/-- ITS FALSE NEIGHBOUR: 'it returns false'. Refute it at one input. -/
def fnExactSortMarksWrong : ChangeSpec := { name := "fnExactSortMarks", vars := ["loop.example/g00158/impl.marks"], fn := fun _ => fun
  | [d, g1] => { results := [.lit (.bool false)], args := [d], vars := [g1] }
  | _ => none }
def FnExactSortMarksWrongFalsely : Prop := fnExactSortMarksRow.holds Tryd.pinned (OpenSpec.ofChange fnExactSortMarksWrong)

/-- 'laws.FnExactNormalD': WHATEVER THE INPUT: true; the input reads as it did. -/
def fnExactNormalDSpec : ChangeSpec := { name := "fnExactNormalD", vars := ["loop.example/g00158/impl.capitalPairs", "loop.example/g00158/impl.otherPairs", "loop.example/g00158/impl.marks"], fn := fun _ => fun
  | [d, g1, g2, g3] => { results := [.lit (.bool true)], args := [d], vars := [g1, g2, g3] }
  | _ => none }
def fnExactNormalDRow : OpenClaim := { program := "ytlhpkjhinikmmaddoor", sum := "b447f1ff7a8f331710bad2610c2ad67b62237aa3a646bea0746a4f9c02c05328", func := "loop.example/g00158/laws.FnExactNormalD", spec := "fnExactNormalD", unfollowed := true, recurses := true, named := ["loop.example/g00158/impl.capitalPairs", "loop.example/g00158/impl.otherPairs", "loop.example/g00158/impl.marks"], apart := false, laid := [("loop.example/g00158/impl.marks", laid_loop_example_g00158_impl_marks), ("loop.example/g00158/impl.capitalPairs", laid_loop_example_g00158_impl_capitalPairs), ("loop.example/g00158/impl.otherPairs", laid_loop_example_g00158_impl_otherPairs)] }
def FnExactNormalDSaid : Prop := fnExactNormalDRow.holds Tryd.pinned (OpenSpec.ofChange fnExactNormalDSpec)

/-- ITS FALSE NEIGHBOUR: 'it returns false'. Refute it at one input. -/
def fnExactNormalDWrong : ChangeSpec := { name := "fnExactNormalD", vars := ["loop.example/g00158/impl.capitalPairs", "loop.example/g00158/impl.otherPairs", "loop.example/g00158/impl.marks"], fn := fun _ => fun
  | [d, g1, g2, g3] => { results := [.lit (.bool false)], args := [d], vars := [g1, g2, g3] }
  | _ => none }
def FnExactNormalDWrongFalsely : Prop := fnExactNormalDRow.holds Tryd.pinned (OpenSpec.ofChange fnExactNormalDWrong)

/-- 'laws.FnExactNormalC': WHATEVER THE INPUT: true; the input reads as it did. -/
def fnExactNormalCSpec : ChangeSpec := { name := "fnExactNormalC", vars := ["loop.example/g00158/impl.capitalPairs", "loop.example/g00158/impl.otherPairs", "loop.example/g00158/impl.marks"], fn := fun _ => fun
  | [d, g1, g2, g3] => { results := [.lit (.bool true)], args := [d], vars := [g1, g2, g3] }
  | _ => none }
def fnExactNormalCRow : OpenClaim := { program := "ytlhpkjhinikmmaddoor", sum := "b447f1ff7a8f331710bad2610c2ad67b62237aa3a646bea0746a4f9c02c05328", func := "loop.example/g00158/laws.FnExactNormalC", spec := "fnExactNormalC", unfollowed := true, recurses := true, named := ["loop.example/g00158/impl.capitalPairs", "loop.example/g00158/impl.otherPairs", "loop.example/g00158/impl.marks"], apart := false, laid := [("loop.example/g00158/impl.marks", laid_loop_example_g00158_impl_marks), ("loop.example/g00158/impl.capitalPairs", laid_loop_example_g00158_impl_capitalPairs), ("loop.example/g00158/impl.otherPairs", laid_loop_example_g00158_impl_otherPairs)] }
def FnExactNormalCSaid : Prop := fnExactNormalCRow.holds Tryd.pinned (OpenSpec.ofChange fnExactNormalCSpec)

/-- ITS FALSE NEIGHBOUR: 'it returns false'. Refute it at one input. -/
def fnExactNormalCWrong : ChangeSpec := { name := "fnExactNormalC", vars := ["loop.example/g00158/impl.capitalPairs", "loop.example/g00158/impl.otherPairs", "loop.example/g00158/impl.marks"], fn := fun _ => fun
  | [d, g1, g2, g3] => { results := [.lit (.bool false)], args := [d], vars := [g1, g2, g3] }
  | _ => none }
def FnExactNormalCWrongFalsely : Prop := fnExactNormalCRow.holds Tryd.pinned (OpenSpec.ofChange fnExactNormalCWrong)

/- THE SECOND FORM. 'bulk': how many values and letters a reading holds, each counted each time it is reached (what is shared counts as often as it is met; a slice's spare places count too). A statement '..UptoSaid' is the law's where the arguments, and the package variables that the reading takes, are together of bulk at most 1048576: NARROWER than '..Said'. Prove '..Said' where nothing that the law and all that it calls make is longer than what came in: it says more and counts as full. Else prove '..UptoSaid'. A law counts once. -/
mutual
def uptoBulk {H : Type} : DataW H → Nat
  | .lit (.string bytes) => bytes.length + 1
  | .lit _ => 1
  | .nil => 1
  | .ptr d => uptoBulk d + 1
  | .slice elems spare => uptoBulkAll elems + uptoBulkAll spare + 1
  | .agg parts => uptoBulkAll parts + 1
  | .iface _ d => uptoBulk d + 1
  | .map entries => uptoBulkEntries entries + 1
  | .held _ => 1
def uptoBulkAll {H : Type} : List (DataW H) → Nat
  | [] => 0
  | d :: r => uptoBulk d + uptoBulkAll r
def uptoBulkEntries {H : Type} : List (Lit × DataW H) → Nat
  | [] => 0
  | x :: r => uptoBulkEntry x + uptoBulkEntries r
def uptoBulkEntry {H : Type} : Lit × DataW H → Nat
  | (.string bytes, d) => bytes.length + uptoBulk d + 1
  | (_, d) => uptoBulk d + 1
 end
def uptoSmall : (H : Type) → List (DataW H) → Bool := fun _ ds => decide (uptoBulkAll ds ≤ 1048576)
def OpenSpec.upto (s : _root_.Go.ChangeSpec) : _root_.Go.OpenSpec := { _root_.Go.OpenSpec.ofChange s with cond := some uptoSmall }

/-- 'laws.FnExactClassOf', WHERE WHAT IT READS IS OF BULK AT MOST 1048576: true; the input reads as it did. -/
def fnExactClassOfUptoRow : OpenClaim := { program := "ytlhpkjhinikmmaddoor", sum := "b447f1ff7a8f331710bad2610c2ad67b62237aa3a646bea0746a4f9c02c05328", func := "loop.example/g00158/laws.FnExactClassOf", spec := "fnExactClassOf", named := ["loop.example/g00158/impl.marks"], apart := false, laid := [("loop.example/g00158/impl.marks", laid_loop_example_g00158_impl_marks)], narrowed := true }
def FnExactClassOfUptoSaid : Prop := fnExactClassOfUptoRow.holds Tryd.pinned (OpenSpec.upto fnExactClassOfSpec)

/-- 'laws.FnExactApartOf', WHERE WHAT IT READS IS OF BULK AT MOST 1048576: true; the input reads as it did. -/
def fnExactApartOfUptoRow : OpenClaim := { program := "ytlhpkjhinikmmaddoor", sum := "b447f1ff7a8f331710bad2610c2ad67b62237aa3a646bea0746a4f9c02c05328", func := "loop.example/g00158/laws.FnExactApartOf", spec := "fnExactApartOf", named := ["loop.example/g00158/impl.capitalPairs", "loop.example/g00158/impl.otherPairs"], apart := false, laid := [("loop.example/g00158/impl.capitalPairs", laid_loop_example_g00158_impl_capitalPairs), ("loop.example/g00158/impl.otherPairs", laid_loop_example_g00158_impl_otherPairs)], narrowed := true }
def FnExactApartOfUptoSaid : Prop := fnExactApartOfUptoRow.holds Tryd.pinned (OpenSpec.upto fnExactApartOfSpec)

/-- 'laws.FnExactTogetherOf', WHERE WHAT IT READS IS OF BULK AT MOST 1048576: true; the input reads as it did. -/
def fnExactTogetherOfUptoRow : OpenClaim := { program := "ytlhpkjhinikmmaddoor", sum := "b447f1ff7a8f331710bad2610c2ad67b62237aa3a646bea0746a4f9c02c05328", func := "loop.example/g00158/laws.FnExactTogetherOf", spec := "fnExactTogetherOf", named := ["loop.example/g00158/impl.capitalPairs", "loop.example/g00158/impl.otherPairs"], apart := false, laid := [("loop.example/g00158/impl.capitalPairs", laid_loop_example_g00158_impl_capitalPairs), ("loop.example/g00158/impl.otherPairs", laid_loop_example_g00158_impl_otherPairs)], narrowed := true }
def FnExactTogetherOfUptoSaid : Prop := fnExactTogetherOfUptoRow.holds Tryd.pinned (OpenSpec.upto fnExactTogetherOfSpec)

/-- 'laws.FnExactSortMarks', WHERE WHAT IT READS IS OF BULK AT MOST 1048576: true; the input reads as it did. -/
def fnExactSortMarksUptoRow : OpenClaim := { program := "ytlhpkjhinikmmaddoor", sum := "b447f1ff7a8f331710bad2610c2ad67b62237aa3a646bea0746a4f9c02c05328", func := "loop.example/g00158/laws.FnExactSortMarks", spec := "fnExactSortMarks", unfollowed := true, recurses := true, named := ["loop.example/g00158/impl.marks"], apart := false, laid := [("loop.example/g00158/impl.marks", laid_loop_example_g00158_impl_marks)], narrowed := true }
def FnExactSortMarksUptoSaid : Prop := fnExactSortMarksUptoRow.holds Tryd.pinned (OpenSpec.upto fnExactSortMarksSpec)

/-- 'laws.FnExactNormalD', WHERE WHAT IT READS IS OF BULK AT MOST 1048576: true; the input reads as it did. -/
def fnExactNormalDUptoRow : OpenClaim := { program := "ytlhpkjhinikmmaddoor", sum := "b447f1ff7a8f331710bad2610c2ad67b62237aa3a646bea0746a4f9c02c05328", func := "loop.example/g00158/laws.FnExactNormalD", spec := "fnExactNormalD", unfollowed := true, recurses := true, named := ["loop.example/g00158/impl.capitalPairs", "loop.example/g00158/impl.otherPairs", "loop.example/g00158/impl.marks"], apart := false, laid := [("loop.example/g00158/impl.marks", laid_loop_example_g00158_impl_marks), ("loop.example/g00158/impl.capitalPairs", laid_loop_example_g00158_impl_capitalPairs), ("loop.example/g00158/impl.otherPairs", laid_loop_example_g00158_impl_otherPairs)], narrowed := true }
def FnExactNormalDUptoSaid : Prop := fnExactNormalDUptoRow.holds Tryd.pinned (OpenSpec.upto fnExactNormalDSpec)

/-- 'laws.FnExactNormalC', WHERE WHAT IT READS IS OF BULK AT MOST 1048576: true; the input reads as it did. -/
def fnExactNormalCUptoRow : OpenClaim := { program := "ytlhpkjhinikmmaddoor", sum := "b447f1ff7a8f331710bad2610c2ad67b62237aa3a646bea0746a4f9c02c05328", func := "loop.example/g00158/laws.FnExactNormalC", spec := "fnExactNormalC", unfollowed := true, recurses := true, named := ["loop.example/g00158/impl.capitalPairs", "loop.example/g00158/impl.otherPairs", "loop.example/g00158/impl.marks"], apart := false, laid := [("loop.example/g00158/impl.marks", laid_loop_example_g00158_impl_marks), ("loop.example/g00158/impl.capitalPairs", laid_loop_example_g00158_impl_capitalPairs), ("loop.example/g00158/impl.otherPairs", laid_loop_example_g00158_impl_otherPairs)], narrowed := true }
def FnExactNormalCUptoSaid : Prop := fnExactNormalCUptoRow.holds Tryd.pinned (OpenSpec.upto fnExactNormalCSpec)

end Rows
end Go.Proofs.YtlhpkjhinikmmadDoor
