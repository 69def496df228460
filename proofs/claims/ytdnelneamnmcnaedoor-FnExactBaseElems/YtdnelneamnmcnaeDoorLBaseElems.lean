/- Proved: for every int r, impl.BaseElems answers as the specification's BaseElems, every field of every elem, and its answer owns its memory, so the law FnExactBaseElems returns true and leaves the input as it was; the table of marks is as the program's own text lays it (the tied card). -/
import Derived.Test.YtdnelneamnmcnaeDoorIBaseE
import Derived.Test.YtdnelneamnmcnaeDoorRows1
import Derived.Test.YtdnelneamnmcnaeDoorCards
import Derived.Test.YtdnelneamnmcnaeDoorTie
import Derived.WalkKit
import Derived.ProofKit
import Derived.OpenShut
import Derived.LaidMore
import Derived.Stop.Joined
import Derived.ChangeOld
namespace Go.Proofs.YtdnelneamnmcnaeDoor
open Go.ChangeShapes Go.WideShapes Go.ChangeAt Go.WideMaps Go.WideElems Go.RowKit

theorem fnExactBaseElems_law (a0 : Int) (w : World) (_w0 : (Lit.int .i64 a0).wf = true) (t_marks : Held w 0 marksF) :
    Calls Tryd.prog 5 #[.int .i64 a0] w fun e w' => e = .returned (.bool true) ∧ Below w.heap.size w w' :=
  baseElems_walk a0 w fun u hu => implBaseE_any a0 u (t_marks.below hu t_marks.lt)

theorem own_fnExactBaseElems : ownKnob Tryd.prog.godebug = none := by kernel_rfl
theorem laidOut_fnExactBaseElems : laidOutB Tryd.prog = true := by kernel_rfl

set_option linter.unusedVariables false in
set_option maxRecDepth 100000 in
theorem fnExactBaseElems_contract (H : Type) (enc : TypeId × Value → H) (W : World) (base : Nat) (args : Array Value) (ds gs : List (DataW H)) (before : List MemPlace)
    (hval0 : ∀ (j : Nat) t v, Tryd.f5.params[j]? = some t → args[j]? = some v → Value.okWide Tryd.prog W .any base t v)
    (hW : DataW.Whole enc Tryd.prog Tryd.f5.params.toList Rows.fnExactBaseElemsSpec.vars false W args.toList ds gs before) (hL : laidMetH Tryd.prog Rows.fnExactBaseElemsRow.laid W) :
    Calls Tryd.prog 5 args W fun e W' => ∃ v, e = .returned v ∧ Rows.fnExactBaseElemsSpec.post enc Tryd.prog Tryd.f5 false true false false W args v W' := by
  have hval : ∀ (j : Nat) t v, Tryd.f5.params[j]? = some t → args[j]? = some v → Value.okWide Tryd.prog W .any base t v := hval0
  have hW' := hW
  obtain ⟨p, q, hA0, hV, rfl, hfz, hnd⟩ := hW
  have hA : DataW.TrodAll enc Tryd.prog W 0 (fun _ => true) true Tryd.f5.params.toList args.toList ds p := hA0
  rw [Tryd.params5] at hA hval
  obtain ⟨v0, vs0, d0, ds0, p0, q0, hargs, rfl, rfl, h0, r0⟩ := trodAll_cons hA
  obtain ⟨rfl, rfl, rfl⟩ := trodAll_nil r0
  obtain rfl : args = #[v0] := by cases args; simp_all
  obtain ⟨g1, rfl⟩ : ∃ g1, gs = [g1] := by
    have hg := trodVars_len hV
    match gs, hg with
    | [x1], _ => exact ⟨x1, rfl⟩
  obtain ⟨a0, rfl, rfl, rfl, w0⟩ := open_int Tryd.underlying3 (hval 0 3 v0 rfl rfl) h0
  have hL2 : laidMet Tryd.prog Rows.fnExactBaseElemsRow.laid W := hL
  have t_marks := marks_held hL2
  clear hA0 hval0
  refine (fnExactBaseElems_law a0 W w0 t_marks).mono fun e W' ⟨he, bel⟩ => ?_
  subst he
  exact ⟨_, rfl, _, _, _, [], _, q, hW', trodAll_mk1 (shut_bool Tryd.underlying4 _), (trodAll_cons_mk (shut_int Tryd.underlying3 w0) trodAll_mk0), bel.trodVars laidOut_fnExactBaseElems (by kernel_rfl) hV, bel.frame _, fun h => by cases h⟩

theorem fnExactBaseElems_door (os : Os) (args : Array Value) : laidMetH Tryd.prog Rows.fnExactBaseElemsRow.laid ((World.doorLaid Tryd.prog 70 os).forCall (fun _ _ => 0) ⟨#[], args, []⟩).memory :=
  laidMetH_of_parts3 (fuel := 8) (laidMet_of_run' 8 (by kernel_rfl) (by kernel_rfl)) (by kernel_rfl) (by kernel_rfl)

set_option maxRecDepth 100000 in
theorem fnExactBaseElems_lifted (os : Os) (started : os.Started) (H : Type) (enc : TypeId × Value → H) :
    ReturnsInHanded {} Tryd.checked os 5 .any (fun w args => (Rows.fnExactBaseElemsSpec.pre enc Tryd.prog Tryd.f5 [] false w args ∧ laidMetH Tryd.prog Rows.fnExactBaseElemsRow.laid w) ∧ sizedMet enc Tryd.prog Tryd.f5 (OpenSpec.ofChange Rows.fnExactBaseElemsSpec) false w args)
      (Rows.fnExactBaseElemsSpec.post enc Tryd.prog Tryd.f5 false true false false) := by
  refine returnsInHanded_of_change_and (C := Tryd.checked) (X := fun w _ => laidMetH Tryd.prog Rows.fnExactBaseElemsRow.laid w) (fun _ _ _ hh h => h.of_heap hh) own_fnExactBaseElems started (by kernel_rfl) Tryd.func5
    (ChangeSpec.witness_shaped (enc := enc) (C := Tryd.checked) (os := os) (X := fun w _ => laidMetH Tryd.prog Rows.fnExactBaseElemsRow.laid w) false (World.doorLaid Tryd.prog 70 os) #[.int .i64 0] 8 rfl (World.shaped_of_RefB (by kernel_rfl) (by kernel_rfl)) (by kernel_rfl) (by kernel_rfl) (by kernel_rfl) (fnExactBaseElems_door os _)) ?_
  intro W base args ds gs before hval0 hW _ _ hL _
  exact fnExactBaseElems_contract H enc W base args ds gs before hval0 hW hL

theorem fnExactBaseElems_said : Rows.FnExactBaseElemsSaid :=
  OpenClaim.holds_of_wide 5 Tryd.f5 rfl rfl rfl rfl rfl rfl rfl ⟨rfl, rfl, rfl, rfl, rfl⟩ rfl rfl rfl rfl rfl (by kernel_rfl) Tryd.func5 (by kernel_rfl)
    (of_decide_eq_true (by kernel_rfl)) (by unfold Func.isWrapper; first | (rw [if_pos (by decide +kernel)]; kernel_rfl) | (rw [if_neg (by decide +kernel)]; exact ⟨rfl, rfl⟩))
    (fun os started H enc _ => fnExactBaseElems_lifted os started H enc)

theorem fnExactBaseElems_plain (f : FuncId) (fn : Func) (hf : Tryd.pinned.checked.prog.funcNamed "loop.example/g00158/laws.FnExactBaseElems" = some f) (hfn : Tryd.pinned.checked.prog.funcs[f]? = some fn) :
    ∀ (j : Nat) t, fn.params[j]? = some t → Tryd.pinned.checked.prog.wantsStandIn t = false := by
  obtain rfl : f = 5 := Option.some.inj ((show Tryd.prog.funcNamed "loop.example/g00158/laws.FnExactBaseElems" = some 5 by kernel_rfl).symm.trans hf) |>.symm
  obtain rfl : fn = Tryd.f5 := (Option.some.inj (Tryd.func5.symm.trans hfn)).symm
  intro j t ht
  rw [Tryd.params5] at ht
  obtain rfl : t = 3 := by simpa using Array.mem_of_getElem? ht
  exact (show Tryd.prog.wantsStandIn 3 = false by kernel_rfl)

theorem fnExactBaseElems_card : Rows.FnExactBaseElemsCardSaid :=
  Claim7.holds_tied_plain_at .later [] _ _ _ _ fnExactBaseElems_said (fun _ h => by cases h) (by kernel_rfl) (fun _ h => by cases h) fnExactBaseElems_row_tie rfl ⟨rfl, rfl⟩ (by kernel_rfl) rfl (fun f fn hf hfn => ⟨by kernel_rfl, fnExactBaseElems_plain f fn hf hfn⟩) (by kernel_rfl)
#print axioms fnExactBaseElems_card
end Go.Proofs.YtdnelneamnmcnaeDoor
