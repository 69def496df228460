/-
  No cell of these rows narrows 'for every input' (looked for: loops, veiled, ifaces, maps, wideKeys, modest, calm, conditions, laid).
  DERIVED. THE GIVEN ROWS OF THIS SEAT. 5 by the template 'for every input the law returns true; each argument reads behind the call as it read before'; 0 by the template 'total and deterministic' (their statements: YtahnbomjnnkclacTotals.lean).
  GIVEN WITH THE SEED: the statements are not yours to turn. If you find one false, say at which input.
  Laid BY PROGRAM, IN A SANDBOX (cutbox-rows.mjs): the forced cells as the released guide's own fill.sh prints them over the translation b22d121297752fd8… (all of the seat's roots in one cut). By AI agents, Wed Nov 11 2026. No macro, syntax, notation, axiom, sorry.
-/
import Derived.Test.YtahnbomjnnkclacChecked
import GoSem.Claim
import GoSem.ClaimJoined
import GoSem.ClaimMapViews
import Derived.JoinedTies
import Derived.KernelRfl
namespace Go.Proofs.Ytahnbomjnnkclac
/- THE CELL 'sum', in the pinned program and in every row, IS THE sha256 OF THE DUMP (.gsa) THAT YtahnbomjnnkclacProg.lean LOADS. Nothing in Lean hashes anything: it is a label: what it is worth is what the hold of that sum in a sandbox is worth. -/
noncomputable def Try.pinned : Pinned := { name := "ytahnbomjnnkclac", sum := "b22d121297752fd8674e6664d947a697ae53a6556dfa96a0e1949ab0ecebe533", checked := Try.checked }
namespace Rows
def none {H : Type} : Left H := { results := [], args := [] }

/-- 'laws.FnExactGoodRune': WHATEVER THE INPUT: true; the input reads as it did. -/
def fnExactGoodRuneSpec : ChangeSpec := { name := "fnExactGoodRune", fn := fun _ => fun
  | [d] => { results := [.lit (.bool true)], args := [d] }
  | _ => none }
def fnExactGoodRuneRow : OpenClaim := { program := "ytahnbomjnnkclac", sum := "b22d121297752fd8674e6664d947a697ae53a6556dfa96a0e1949ab0ecebe533", func := "loop.example/g00158/laws.FnExactGoodRune", spec := "fnExactGoodRune", apart := false }
def FnExactGoodRuneSaid : Prop := fnExactGoodRuneRow.holds Try.pinned (OpenSpec.ofChange fnExactGoodRuneSpec)

/-- ITS FALSE NEIGHBOUR: 'it returns false'. Refute it at one input. -/
def fnExactGoodRuneWrong : ChangeSpec := { name := "fnExactGoodRune", fn := fun _ => fun
  | [d] => { results := [.lit (.bool false)], args := [d] }
  | _ => none }
def FnExactGoodRuneWrongFalsely : Prop := fnExactGoodRuneRow.holds Try.pinned (OpenSpec.ofChange fnExactGoodRuneWrong)

/-- 'laws.FnExactDecodeText': WHATEVER THE INPUT: true; the input reads as it did. -/
def fnExactDecodeTextSpec : ChangeSpec := { name := "fnExactDecodeText", fn := fun _ => fun
  | [d] => { results := [.lit (.bool true)], args := [d] }
  | _ => none }
def fnExactDecodeTextRow : OpenClaim := { program := "ytahnbomjnnkclac", sum := "b22d121297752fd8674e6664d947a697ae53a6556dfa96a0e1949ab0ecebe533", func := "loop.example/g00158/laws.FnExactDecodeText", spec := "fnExactDecodeText", apart := false }
def FnExactDecodeTextSaid : Prop := fnExactDecodeTextRow.holds Try.pinned (OpenSpec.ofChange fnExactDecodeTextSpec)

/-- ITS FALSE NEIGHBOUR: 'it returns false'. Refute it at one input. -/
def fnExactDecodeTextWrong : ChangeSpec := { name := "fnExactDecodeText", fn := fun _ => fun
  | [d] => { results := [.lit (.bool false)], args := [d] }
  | _ => none }
def FnExactDecodeTextWrongFalsely : Prop := fnExactDecodeTextRow.holds Try.pinned (OpenSpec.ofChange fnExactDecodeTextWrong)

/-- 'laws.FnExactEncodeRunes': WHATEVER THE INPUT: true; the input reads as it did. -/
def fnExactEncodeRunesSpec : ChangeSpec := { name := "fnExactEncodeRunes", fn := fun _ => fun
  | [d] => { results := [.lit (.bool true)], args := [d] }
  | _ => none }
def fnExactEncodeRunesRow : OpenClaim := { program := "ytahnbomjnnkclac", sum := "b22d121297752fd8674e6664d947a697ae53a6556dfa96a0e1949ab0ecebe533", func := "loop.example/g00158/laws.FnExactEncodeRunes", spec := "fnExactEncodeRunes", inPlace := ["internal/abi.NoEscape"], apart := false }
def FnExactEncodeRunesSaid : Prop := fnExactEncodeRunesRow.holds Try.pinned (OpenSpec.ofChange fnExactEncodeRunesSpec)

/-- ITS FALSE NEIGHBOUR: 'it returns false'. Refute it at one input. -/
def fnExactEncodeRunesWrong : ChangeSpec := { name := "fnExactEncodeRunes", fn := fun _ => fun
  | [d] => { results := [.lit (.bool false)], args := [d] }
  | _ => none }
def FnExactEncodeRunesWrongFalsely : Prop := fnExactEncodeRunesRow.holds Try.pinned (OpenSpec.ofChange fnExactEncodeRunesWrong)

/-- 'laws.FnExactBadIn': WHATEVER THE INPUT: true; the input reads as it did. -/
def fnExactBadInSpec : ChangeSpec := { name := "fnExactBadIn", fn := fun _ => fun
  | [d] => { results := [.lit (.bool true)], args := [d] }
  | _ => none }
def fnExactBadInRow : OpenClaim := { program := "ytahnbomjnnkclac", sum := "b22d121297752fd8674e6664d947a697ae53a6556dfa96a0e1949ab0ecebe533", func := "loop.example/g00158/laws.FnExactBadIn", spec := "fnExactBadIn", apart := false }
def FnExactBadInSaid : Prop := fnExactBadInRow.holds Try.pinned (OpenSpec.ofChange fnExactBadInSpec)

/-- ITS FALSE NEIGHBOUR: 'it returns false'. Refute it at one input. -/
def fnExactBadInWrong : ChangeSpec := { name := "fnExactBadIn", fn := fun _ => fun
  | [d] => { results := [.lit (.bool false)], args := [d] }
  | _ => none }
def FnExactBadInWrongFalsely : Prop := fnExactBadInRow.holds Try.pinned (OpenSpec.ofChange fnExactBadInWrong)

/-- 'laws.FnExactCleanText': WHATEVER THE INPUT: true; the input reads as it did. -/
def fnExactCleanTextSpec : ChangeSpec := { name := "fnExactCleanText", fn := fun _ => fun
  | [d] => { results := [.lit (.bool true)], args := [d] }
  | _ => none }
def fnExactCleanTextRow : OpenClaim := { program := "ytahnbomjnnkclac", sum := "b22d121297752fd8674e6664d947a697ae53a6556dfa96a0e1949ab0ecebe533", func := "loop.example/g00158/laws.FnExactCleanText", spec := "fnExactCleanText", inPlace := ["internal/abi.NoEscape"], apart := false }
def FnExactCleanTextSaid : Prop := fnExactCleanTextRow.holds Try.pinned (OpenSpec.ofChange fnExactCleanTextSpec)

/-- ITS FALSE NEIGHBOUR: 'it returns false'. Refute it at one input. -/
def fnExactCleanTextWrong : ChangeSpec := { name := "fnExactCleanText", fn := fun _ => fun
  | [d] => { results := [.lit (.bool false)], args := [d] }
  | _ => none }
def FnExactCleanTextWrongFalsely : Prop := fnExactCleanTextRow.holds Try.pinned (OpenSpec.ofChange fnExactCleanTextWrong)

/- THE SECOND FORM. 'bulk': how many values and letters a reading holds, each counted each time it is reached (what is shared counts as often as it is met; a slice's spare places count too). A statement '..UptoSaid' is the law's where the arguments, and the package variables that the reading takes, are together of bulk at most 1048576: NARROWER than '..Said'. Prove '..Said' where nothing that the law and all that it calls make is longer than what came in: it says more and counts as full. Else prove '..UptoSaid'. A law counts once. -/
mutual
def uptoBulk {H : Type} : DataW H → Nat
  | .lit (.string bytes) => bytes.length + 1
  | .lit _ => 1
  | .nil => 1
  | .ptr d => uptoBulk d + 1
  | .slice elems spare => uptoBulkAll elems + uptoBulkAll spare + 1
  | .agg parts => uptoBulkAll parts + 1
  | .iface _ d => uptoBulk d + 1
  | .map entries => uptoBulkEntries entries + 1
  | .held _ => 1
def uptoBulkAll {H : Type} : List (DataW H) → Nat
  | [] => 0
  | d :: r => uptoBulk d + uptoBulkAll r
def uptoBulkEntries {H : Type} : List (Lit × DataW H) → Nat
  | [] => 0
  | x :: r => uptoBulkEntry x + uptoBulkEntries r
def uptoBulkEntry {H : Type} : Lit × DataW H → Nat
  | (.string bytes, d) => bytes.length + uptoBulk d + 1
  | (_, d) => uptoBulk d + 1
 end
def uptoSmall : (H : Type) → List (DataW H) → Bool := fun _ ds => decide (uptoBulkAll ds ≤ 1048576)
def OpenSpec.upto (s : _root_.Go.ChangeSpec) : _root_.Go.OpenSpec := { _root_.Go.OpenSpec.ofChange s with cond := some uptoSmall }

/-- 'laws.FnExactGoodRune', WHERE WHAT IT READS IS OF BULK AT MOST 1048576: true; the input reads as it did. -/
def fnExactGoodRuneUptoRow : OpenClaim := { program := "ytahnbomjnnkclac", sum := "b22d121297752fd8674e6664d947a697ae53a6556dfa96a0e1949ab0ecebe533", func := "loop.example/g00158/laws.FnExactGoodRune", spec := "fnExactGoodRune", apart := false, narrowed := true }
def FnExactGoodRuneUptoSaid : Prop := fnExactGoodRuneUptoRow.holds Try.pinned (OpenSpec.upto fnExactGoodRuneSpec)

/-- 'laws.FnExactDecodeText', WHERE WHAT IT READS IS OF BULK AT MOST 1048576: true; the input reads as it did. -/
def fnExactDecodeTextUptoRow : OpenClaim := { program := "ytahnbomjnnkclac", sum := "b22d121297752fd8674e6664d947a697ae53a6556dfa96a0e1949ab0ecebe533", func := "loop.example/g00158/laws.FnExactDecodeText", spec := "fnExactDecodeText", apart := false, narrowed := true }
def FnExactDecodeTextUptoSaid : Prop := fnExactDecodeTextUptoRow.holds Try.pinned (OpenSpec.upto fnExactDecodeTextSpec)

/-- 'laws.FnExactEncodeRunes', WHERE WHAT IT READS IS OF BULK AT MOST 1048576: true; the input reads as it did. -/
def fnExactEncodeRunesUptoRow : OpenClaim := { program := "ytahnbomjnnkclac", sum := "b22d121297752fd8674e6664d947a697ae53a6556dfa96a0e1949ab0ecebe533", func := "loop.example/g00158/laws.FnExactEncodeRunes", spec := "fnExactEncodeRunes", inPlace := ["internal/abi.NoEscape"], apart := false, narrowed := true }
def FnExactEncodeRunesUptoSaid : Prop := fnExactEncodeRunesUptoRow.holds Try.pinned (OpenSpec.upto fnExactEncodeRunesSpec)

/-- 'laws.FnExactBadIn', WHERE WHAT IT READS IS OF BULK AT MOST 1048576: true; the input reads as it did. -/
def fnExactBadInUptoRow : OpenClaim := { program := "ytahnbomjnnkclac", sum := "b22d121297752fd8674e6664d947a697ae53a6556dfa96a0e1949ab0ecebe533", func := "loop.example/g00158/laws.FnExactBadIn", spec := "fnExactBadIn", apart := false, narrowed := true }
def FnExactBadInUptoSaid : Prop := fnExactBadInUptoRow.holds Try.pinned (OpenSpec.upto fnExactBadInSpec)

/-- 'laws.FnExactCleanText', WHERE WHAT IT READS IS OF BULK AT MOST 1048576: true; the input reads as it did. -/
def fnExactCleanTextUptoRow : OpenClaim := { program := "ytahnbomjnnkclac", sum := "b22d121297752fd8674e6664d947a697ae53a6556dfa96a0e1949ab0ecebe533", func := "loop.example/g00158/laws.FnExactCleanText", spec := "fnExactCleanText", inPlace := ["internal/abi.NoEscape"], apart := false, narrowed := true }
def FnExactCleanTextUptoSaid : Prop := fnExactCleanTextUptoRow.holds Try.pinned (OpenSpec.upto fnExactCleanTextSpec)

end Rows
end Go.Proofs.Ytahnbomjnnkclac
