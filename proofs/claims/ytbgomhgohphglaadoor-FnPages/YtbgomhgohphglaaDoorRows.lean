/-
  NARROWER THAN 'FOR EVERY INPUT', by the rows' own cells (each row's printed sentence says how): FnPages: ifaces, laid · FnTree: ifaces, laid · FnExactPutInPages: ifaces, laid · FnExactDropFromPages: ifaces, laid.
  DERIVED. THE GIVEN ROWS OF THIS SEAT. 4 by the template 'for every input the law returns true; each argument reads behind the call as it read before'; 0 by the template 'total and deterministic' (their statements: YtbgomhgohphglaaDoorTotals.lean).
  GIVEN WITH THE SEED: the statements are not yours to turn. If you find one false, say at which input.
  Laid BY PROGRAM, IN A SANDBOX (cutbox-rows.mjs): the forced cells as the released guide's own fill.sh prints them over the translation 3651e229272822ce… (all of the seat's roots in one cut). By AI agents, Wed Nov 11 2026. No macro, syntax, notation, axiom, sorry.
-/
import Derived.Test.YtbgomhgohphglaaDoorChecked
import GoSem.Claim
import GoSem.ClaimJoined
import GoSem.ClaimMapViews
import Derived.JoinedTies
import Derived.KernelRfl
namespace Go.Proofs.YtbgomhgohphglaaDoor
/- THE CELL 'sum', in the pinned program and in every row, IS THE sha256 OF THE DUMP (.gsa) THAT YtbgomhgohphglaaDoorProg.lean LOADS. Nothing in Lean hashes anything: it is a label: what it is worth is what the hold of that sum in a sandbox is worth. -/
noncomputable def Tryd.pinned : Pinned := { name := "ytbgomhgohphglaadoor", sum := "3651e229272822cebf1d55672ff2d081cb121ea018cef82f850f09d8dfe38a2f", checked := Tryd.checked }
namespace Rows
def none {H : Type} : Left H := { results := [], args := [] }

/- WHAT THE LISTED PACKAGE-LEVEL VARIABLES READ AS WHEN THE CALL BEGINS. Each datum BY PROGRAM (the guide's laid-datum.mjs) off the statement by which the dump's own 'gosem.cut.vars' lays the variable. In a bare row this is a premise. The card (YtbgomhgohphglaaDoorCards.lean) ties it to the program's text. -/
def laid_loop_example_g00158_impl_errPageLacks {H : Type} : DataW H := .iface "*errors.errorString" (.ptr (.agg [.lit (.string [116, 104, 101, 32, 112, 97, 103, 101, 32, 115, 97, 121, 115, 32, 109, 111, 114, 101, 32, 116, 104, 97, 110, 32, 105, 116, 32, 104, 97, 115])]))

/-- 'laws.FnPages': WHATEVER THE INPUT: true; the input reads as it did. -/
def fnPagesSpec : ChangeSpec := { name := "fnPages", vars := ["loop.example/g00158/impl.errPageLacks"], fn := fun _ => fun
  | [d, g1] => { results := [.lit (.bool true)], args := [d], vars := [g1] }
  | _ => none }
def fnPagesRow : OpenClaim := { program := "ytbgomhgohphglaadoor", sum := "3651e229272822cebf1d55672ff2d081cb121ea018cef82f850f09d8dfe38a2f", func := "loop.example/g00158/laws.FnPages", spec := "fnPages", inPlace := ["internal/bytealg.abigen_runtime_cmpstring"], unfollowed := true, recurses := true, named := ["loop.example/g00158/impl.errPageLacks"], ifaces := true, apart := false, laid := [("loop.example/g00158/impl.errPageLacks", laid_loop_example_g00158_impl_errPageLacks)] }
def FnPagesSaid : Prop := fnPagesRow.holds Tryd.pinned (OpenSpec.ofChange fnPagesSpec)

/-- ITS FALSE NEIGHBOUR: 'it returns false'. Refute it at one input. -/
def fnPagesWrong : ChangeSpec := { name := "fnPages", vars := ["loop.example/g00158/impl.errPageLacks"], fn := fun _ => fun
  | [d, g1] => { results := [.lit (.bool false)], args := [d], vars := [g1] }
  | _ => none }
def FnPagesWrongFalsely : Prop := fnPagesRow.holds Tryd.pinned (OpenSpec.ofChange fnPagesWrong)

/-- 'laws.FnTree': WHATEVER THE INPUT: true; the input reads as it did. -/
def fnTreeSpec : ChangeSpec := { name := "fnTree", vars := ["loop.example/g00158/impl.errPageLacks"], fn := fun _ => fun
  | [d, g1] => { results := [.lit (.bool true)], args := [d], vars := [g1] }
  | _ => none }
def fnTreeRow : OpenClaim := { program := "ytbgomhgohphglaadoor", sum := "3651e229272822cebf1d55672ff2d081cb121ea018cef82f850f09d8dfe38a2f", func := "loop.example/g00158/laws.FnTree", spec := "fnTree", inPlace := ["internal/bytealg.abigen_runtime_cmpstring", "slices.overlaps[[]loop.example/g00158/impl.Row]"], unfollowed := true, recurses := true, named := ["loop.example/g00158/impl.errPageLacks"], ifaces := true, apart := false, laid := [("loop.example/g00158/impl.errPageLacks", laid_loop_example_g00158_impl_errPageLacks)] }
def FnTreeSaid : Prop := fnTreeRow.holds Tryd.pinned (OpenSpec.ofChange fnTreeSpec)

/-- ITS FALSE NEIGHBOUR: 'it returns false'. Refute it at one input. -/
def fnTreeWrong : ChangeSpec := { name := "fnTree", vars := ["loop.example/g00158/impl.errPageLacks"], fn := fun _ => fun
  | [d, g1] => { results := [.lit (.bool false)], args := [d], vars := [g1] }
  | _ => none }
def FnTreeWrongFalsely : Prop := fnTreeRow.holds Tryd.pinned (OpenSpec.ofChange fnTreeWrong)

/-- 'laws.FnExactPutInPages': WHATEVER THE INPUT: true; the input reads as it did. -/
def fnExactPutInPagesSpec : ChangeSpec := { name := "fnExactPutInPages", vars := ["loop.example/g00158/impl.errPageLacks"], fn := fun _ => fun
  | [d1, d2, g1] => { results := [.lit (.bool true)], args := [d1, d2], vars := [g1] }
  | _ => none }
def fnExactPutInPagesRow : OpenClaim := { program := "ytbgomhgohphglaadoor", sum := "3651e229272822cebf1d55672ff2d081cb121ea018cef82f850f09d8dfe38a2f", func := "loop.example/g00158/laws.FnExactPutInPages", spec := "fnExactPutInPages", inPlace := ["internal/bytealg.abigen_runtime_cmpstring", "slices.overlaps[[]loop.example/g00158/impl.Row]"], unfollowed := true, recurses := true, named := ["loop.example/g00158/impl.errPageLacks"], ifaces := true, apart := false, laid := [("loop.example/g00158/impl.errPageLacks", laid_loop_example_g00158_impl_errPageLacks)] }
def FnExactPutInPagesSaid : Prop := fnExactPutInPagesRow.holds Tryd.pinned (OpenSpec.ofChange fnExactPutInPagesSpec)

/-- ITS FALSE NEIGHBOUR: 'it returns false'. Refute it at one input. -/
def fnExactPutInPagesWrong : ChangeSpec := { name := "fnExactPutInPages", vars := ["loop.example/g00158/impl.errPageLacks"], fn := fun _ => fun
  | [d1, d2, g1] => { results := [.lit (.bool false)], args := [d1, d2], vars := [g1] }
  | _ => none }
def FnExactPutInPagesWrongFalsely : Prop := fnExactPutInPagesRow.holds Tryd.pinned (OpenSpec.ofChange fnExactPutInPagesWrong)

/-- 'laws.FnExactDropFromPages': WHATEVER THE INPUT: true; the input reads as it did. -/
def fnExactDropFromPagesSpec : ChangeSpec := { name := "fnExactDropFromPages", vars := ["loop.example/g00158/impl.errPageLacks"], fn := fun _ => fun
  | [d1, d2, g1] => { results := [.lit (.bool true)], args := [d1, d2], vars := [g1] }
  | _ => none }
def fnExactDropFromPagesRow : OpenClaim := { program := "ytbgomhgohphglaadoor", sum := "3651e229272822cebf1d55672ff2d081cb121ea018cef82f850f09d8dfe38a2f", func := "loop.example/g00158/laws.FnExactDropFromPages", spec := "fnExactDropFromPages", inPlace := ["internal/bytealg.abigen_runtime_cmpstring", "slices.overlaps[[]loop.example/g00158/impl.Row]"], unfollowed := true, recurses := true, named := ["loop.example/g00158/impl.errPageLacks"], ifaces := true, apart := false, laid := [("loop.example/g00158/impl.errPageLacks", laid_loop_example_g00158_impl_errPageLacks)] }
def FnExactDropFromPagesSaid : Prop := fnExactDropFromPagesRow.holds Tryd.pinned (OpenSpec.ofChange fnExactDropFromPagesSpec)

/-- ITS FALSE NEIGHBOUR: 'it returns false'. Refute it at one input. -/
def fnExactDropFromPagesWrong : ChangeSpec := { name := "fnExactDropFromPages", vars := ["loop.example/g00158/impl.errPageLacks"], fn := fun _ => fun
  | [d1, d2, g1] => { results := [.lit (.bool false)], args := [d1, d2], vars := [g1] }
  | _ => none }
def FnExactDropFromPagesWrongFalsely : Prop := fnExactDropFromPagesRow.holds Tryd.pinned (OpenSpec.ofChange fnExactDropFromPagesWrong)

/- THE SECOND FORM. 'bulk': how many values and letters a reading holds, each counted each time it is reached (what is shared counts as often as it is met; a slice's spare places count too). A statement '..UptoSaid' is the law's where the arguments, and the package variables that the reading takes, are together of bulk at most 1048576: NARROWER than '..Said'. Prove '..Said' where nothing that the law and all that it calls make is longer than what came in: it says more and counts as full. Else prove '..UptoSaid'. A law counts once. -/
mutual
def uptoBulk {H : Type} : DataW H → Nat
  | .lit (.string bytes) => bytes.length + 1
  | .lit _ => 1
  | .nil => 1
  | .ptr d => uptoBulk d + 1
  | .slice elems spare => uptoBulkAll elems + uptoBulkAll spare + 1
  | .agg parts => uptoBulkAll parts + 1
  | .iface _ d => uptoBulk d + 1
  | .map entries => uptoBulkEntries entries + 1
  | .held _ => 1
def uptoBulkAll {H : Type} : List (DataW H) → Nat
  | [] => 0
  | d :: r => uptoBulk d + uptoBulkAll r
def uptoBulkEntries {H : Type} : List (Lit × DataW H) → Nat
  | [] => 0
  | x :: r => uptoBulkEntry x + uptoBulkEntries r
def uptoBulkEntry {H : Type} : Lit × DataW H → Nat
  | (.string bytes, d) => bytes.length + uptoBulk d + 1
  | (_, d) => uptoBulk d + 1
 end
def uptoSmall : (H : Type) → List (DataW H) → Bool := fun _ ds => decide (uptoBulkAll ds ≤ 1048576)
def OpenSpec.upto (s : _root_.Go.ChangeSpec) : _root_.Go.OpenSpec := { _root_.Go.OpenSpec.ofChange s with cond := some uptoSmall }

/-- 'laws.FnPages', WHERE WHAT IT READS IS OF BULK AT MOST 1048576: true; the input reads as it did. -/
def fnPagesUptoRow : OpenClaim := { program := "ytbgomhgohphglaadoor", sum := "3651e229272822cebf1d55672ff2d081cb121ea018cef82f850f09d8dfe38a2f", func := "loop.example/g00158/laws.FnPages", spec := "fnPages", inPlace := ["internal/bytealg.abigen_runtime_cmpstring"], unfollowed := true, recurses := true, named := ["loop.example/g00158/impl.errPageLacks"], ifaces := true, apart := false, laid := [("loop.example/g00158/impl.errPageLacks", laid_loop_example_g00158_impl_errPageLacks)], narrowed := true }
def FnPagesUptoSaid : Prop := fnPagesUptoRow.holds Tryd.pinned (OpenSpec.upto fnPagesSpec)

/-- 'laws.FnTree', WHERE WHAT IT READS IS OF BULK AT MOST 1048576: true; the input reads as it did. -/
def fnTreeUptoRow : OpenClaim := { program := "ytbgomhgohphglaadoor", sum := "3651e229272822cebf1d55672ff2d081cb121ea018cef82f850f09d8dfe38a2f", func := "loop.example/g00158/laws.FnTree", spec := "fnTree", inPlace := ["internal/bytealg.abigen_runtime_cmpstring", "slices.overlaps[[]loop.example/g00158/impl.Row]"], unfollowed := true, recurses := true, named := ["loop.example/g00158/impl.errPageLacks"], ifaces := true, apart := false, laid := [("loop.example/g00158/impl.errPageLacks", laid_loop_example_g00158_impl_errPageLacks)], narrowed := true }
def FnTreeUptoSaid : Prop := fnTreeUptoRow.holds Tryd.pinned (OpenSpec.upto fnTreeSpec)

/-- 'laws.FnExactPutInPages', WHERE WHAT IT READS IS OF BULK AT MOST 1048576: true; the input reads as it did. -/
def fnExactPutInPagesUptoRow : OpenClaim := { program := "ytbgomhgohphglaadoor", sum := "3651e229272822cebf1d55672ff2d081cb121ea018cef82f850f09d8dfe38a2f", func := "loop.example/g00158/laws.FnExactPutInPages", spec := "fnExactPutInPages", inPlace := ["internal/bytealg.abigen_runtime_cmpstring", "slices.overlaps[[]loop.example/g00158/impl.Row]"], unfollowed := true, recurses := true, named := ["loop.example/g00158/impl.errPageLacks"], ifaces := true, apart := false, laid := [("loop.example/g00158/impl.errPageLacks", laid_loop_example_g00158_impl_errPageLacks)], narrowed := true }
def FnExactPutInPagesUptoSaid : Prop := fnExactPutInPagesUptoRow.holds Tryd.pinned (OpenSpec.upto fnExactPutInPagesSpec)

/-- 'laws.FnExactDropFromPages', WHERE WHAT IT READS IS OF BULK AT MOST 1048576: true; the input reads as it did. -/
def fnExactDropFromPagesUptoRow : OpenClaim := { program := "ytbgomhgohphglaadoor", sum := "3651e229272822cebf1d55672ff2d081cb121ea018cef82f850f09d8dfe38a2f", func := "loop.example/g00158/laws.FnExactDropFromPages", spec := "fnExactDropFromPages", inPlace := ["internal/bytealg.abigen_runtime_cmpstring", "slices.overlaps[[]loop.example/g00158/impl.Row]"], unfollowed := true, recurses := true, named := ["loop.example/g00158/impl.errPageLacks"], ifaces := true, apart := false, laid := [("loop.example/g00158/impl.errPageLacks", laid_loop_example_g00158_impl_errPageLacks)], narrowed := true }
def FnExactDropFromPagesUptoSaid : Prop := fnExactDropFromPagesUptoRow.holds Tryd.pinned (OpenSpec.upto fnExactDropFromPagesSpec)

end Rows
end Go.Proofs.YtbgomhgohphglaaDoor
