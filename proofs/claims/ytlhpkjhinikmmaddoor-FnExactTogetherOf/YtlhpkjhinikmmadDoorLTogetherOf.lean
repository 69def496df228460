/- Proved: for every two ints a, b, impl.TogetherOf answers as the specification's TogetherOf, so the law FnExactTogetherOf returns true and leaves the inputs as they were; the tables of pairs are as the program's own text lays them (the tied card). -/
import Derived.Test.YtlhpkjhinikmmadDoorSTog
import Derived.Test.YtlhpkjhinikmmadDoorCards
import Derived.Test.YtlhpkjhinikmmadDoorTie
import Derived.WalkKit
import Derived.ProofKit
import Derived.OpenShut
import Derived.LaidMore
import Derived.Stop.Joined
import Derived.ChangeOld
namespace Go.Proofs.YtlhpkjhinikmmadDoor
open Go.ChangeShapes Go.WideShapes Go.ChangeAt Go.WideMaps Go.WideElems Go.RowKit

set_option linter.unusedVariables false in
set_option maxRecDepth 100000 in
theorem fnExactTogetherOf_law (a0 a1 : Int) (w : World) (w0 : (Lit.int .i64 a0).wf = true) (w1 : (Lit.int .i64 a1).wf = true) (hc : Held w 1 capF) (ho : Held w 2 othF) :
    Calls Tryd.prog 5 #[.int .i64 a0, .int .i64 a1] w fun e w' => e = .returned (.bool true) ∧ Below w.heap.size w w' := by
  have A := specTogether_any a0 a1 w
  have B := fun u hc ho => implTogether_any a0 a1 u hc ho
  generalize tog a0 a1 = o at *
  simp only [togRes] at A B
  generalize o.getD 0 = x at *
  generalize o.isSome = y at *
  go_enter Tryd.func5, Tryd.ntmps5
  go_wp2_with fail
  refine A.mono ?_
  rintro e u1 ⟨rfl, b1⟩
  have hc1 := hc.below b1 hc.lt
  have ho1 := ho.below b1 ho.lt
  go_wp2_with fail
  refine (B _ hc1 ho1).mono ?_
  rintro e u2 ⟨rfl, b2⟩
  clear A B hc ho hc1 ho1
  go_wp2
  go_ret
  exact ⟨rfl, b1.trans (b2.mono b1.size)⟩

theorem own_fnExactTogetherOf : ownKnob Tryd.prog.godebug = none := by kernel_rfl
theorem laidOut_fnExactTogetherOf : laidOutB Tryd.prog = true := by kernel_rfl

set_option linter.unusedVariables false in
set_option maxRecDepth 100000 in
theorem fnExactTogetherOf_contract (H : Type) (enc : TypeId × Value → H) (W : World) (base : Nat) (args : Array Value) (ds gs : List (DataW H)) (before : List MemPlace)
    (hval0 : ∀ (j : Nat) t v, Tryd.f5.params[j]? = some t → args[j]? = some v → Value.okWide Tryd.prog W .any base t v)
    (hW : DataW.Whole enc Tryd.prog Tryd.f5.params.toList Rows.fnExactTogetherOfSpec.vars false W args.toList ds gs before) (hL : laidMetH Tryd.prog Rows.fnExactTogetherOfRow.laid W) :
    Calls Tryd.prog 5 args W fun e W' => ∃ v, e = .returned v ∧ Rows.fnExactTogetherOfSpec.post enc Tryd.prog Tryd.f5 false true false false W args v W' := by
  have hval : ∀ (j : Nat) t v, Tryd.f5.params[j]? = some t → args[j]? = some v → Value.okWide Tryd.prog W .any base t v := hval0
  have hW' := hW
  obtain ⟨p, q, hA0, hV, rfl, hfz, hnd⟩ := hW
  have hA : DataW.TrodAll enc Tryd.prog W 0 (fun _ => true) true Tryd.f5.params.toList args.toList ds p := hA0
  rw [Tryd.params5] at hA hval
  obtain ⟨v0, vs0, d0, ds0, p0, q0, hargs, rfl, rfl, h0, r0⟩ := trodAll_cons hA
  obtain ⟨v1, vs1, d1, ds1, p1, q1, rfl, rfl, rfl, h1, r1⟩ := trodAll_cons r0
  obtain ⟨rfl, rfl, rfl⟩ := trodAll_nil r1
  obtain rfl : args = #[v0, v1] := by cases args; simp_all
  obtain ⟨g1, g2, rfl⟩ : ∃ g1 g2, gs = [g1, g2] := by
    have hg := trodVars_len hV
    match gs, hg with
    | [x1, x2], _ => exact ⟨x1, x2, rfl⟩
  obtain ⟨a0, rfl, rfl, rfl, w0⟩ := open_int Tryd.underlying3 (hval 0 3 v0 rfl rfl) h0
  obtain ⟨a1, rfl, rfl, rfl, w1⟩ := open_int Tryd.underlying3 (hval 1 3 v1 rfl rfl) h1
  have hL2 : laidMet Tryd.prog Rows.fnExactTogetherOfRow.laid W := hL
  have t_cap := cap_held hL2
  have t_oth := oth_held (laidMet.tail hL2)
  clear hA0 hval0
  refine (fnExactTogetherOf_law a0 a1 W w0 w1 t_cap t_oth).mono fun e W' ⟨he, bel⟩ => ?_
  subst he
  exact ⟨_, rfl, _, _, _, [], _, q, hW', trodAll_mk1 (shut_bool Tryd.underlying4 _), (trodAll_cons_mk (shut_int Tryd.underlying3 w0) (trodAll_cons_mk (shut_int Tryd.underlying3 w1) trodAll_mk0)), bel.trodVars laidOut_fnExactTogetherOf (by kernel_rfl) hV, bel.frame _, fun h => by cases h⟩

theorem fnExactTogetherOf_door (os : Os) (args : Array Value) : laidMetH Tryd.prog Rows.fnExactTogetherOfRow.laid ((World.doorLaid Tryd.prog 70 os).forCall (fun _ _ => 0) ⟨#[], args, []⟩).memory :=
  laidMetH_of_parts3 (fuel := 8) (laidMet_of_run' 8 (by kernel_rfl) (by kernel_rfl)) (by kernel_rfl) (by kernel_rfl)

set_option maxRecDepth 100000 in
theorem fnExactTogetherOf_lifted (os : Os) (started : os.Started) (H : Type) (enc : TypeId × Value → H) :
    ReturnsInHanded {} Tryd.checked os 5 .any (fun w args => (Rows.fnExactTogetherOfSpec.pre enc Tryd.prog Tryd.f5 [] false w args ∧ laidMetH Tryd.prog Rows.fnExactTogetherOfRow.laid w) ∧ sizedMet enc Tryd.prog Tryd.f5 (OpenSpec.ofChange Rows.fnExactTogetherOfSpec) false w args)
      (Rows.fnExactTogetherOfSpec.post enc Tryd.prog Tryd.f5 false true false false) := by
  refine returnsInHanded_of_change_and (C := Tryd.checked) (X := fun w _ => laidMetH Tryd.prog Rows.fnExactTogetherOfRow.laid w) (fun _ _ _ hh h => h.of_heap hh) own_fnExactTogetherOf started (by kernel_rfl) Tryd.func5
    (ChangeSpec.witness_shaped (enc := enc) (C := Tryd.checked) (os := os) (X := fun w _ => laidMetH Tryd.prog Rows.fnExactTogetherOfRow.laid w) false (World.doorLaid Tryd.prog 70 os) #[.int .i64 0, .int .i64 0] 8 rfl (World.shaped_of_RefB (by kernel_rfl) (by kernel_rfl)) (by kernel_rfl) (by kernel_rfl) (by kernel_rfl) (fnExactTogetherOf_door os _)) ?_
  intro W base args ds gs before hval0 hW _ _ hL _
  exact fnExactTogetherOf_contract H enc W base args ds gs before hval0 hW hL

theorem fnExactTogetherOf_said : Rows.FnExactTogetherOfSaid :=
  OpenClaim.holds_of_wide 5 Tryd.f5 rfl rfl rfl rfl rfl rfl rfl ⟨rfl, rfl, rfl, rfl, rfl⟩ rfl rfl rfl rfl rfl (by kernel_rfl) Tryd.func5 (by kernel_rfl)
    (of_decide_eq_true (by kernel_rfl)) (by unfold Func.isWrapper; first | (rw [if_pos (by decide +kernel)]; kernel_rfl) | (rw [if_neg (by decide +kernel)]; exact ⟨rfl, rfl⟩))
    (fun os started H enc _ => fnExactTogetherOf_lifted os started H enc)

theorem fnExactTogetherOf_plain (f : FuncId) (fn : Func) (hf : Tryd.pinned.checked.prog.funcNamed "loop.example/g00158/laws.FnExactTogetherOf" = some f) (hfn : Tryd.pinned.checked.prog.funcs[f]? = some fn) :
    false = Tryd.pinned.checked.prog.looks [] ∧ ∀ (j : Nat) t, fn.params[j]? = some t → Tryd.pinned.checked.prog.wantsStandIn t = false := by
  obtain rfl : f = 5 := Option.some.inj ((show Tryd.prog.funcNamed "loop.example/g00158/laws.FnExactTogetherOf" = some 5 by kernel_rfl).symm.trans hf) |>.symm
  obtain rfl : fn = Tryd.f5 := (Option.some.inj (Tryd.func5.symm.trans hfn)).symm
  refine ⟨by kernel_rfl, fun j t ht => ?_⟩
  rw [Tryd.params5] at ht
  obtain rfl : t = 3 := by simpa using Array.mem_of_getElem? ht
  exact (show Tryd.prog.wantsStandIn 3 = false by kernel_rfl)

theorem fnExactTogetherOf_card : Rows.FnExactTogetherOfCardSaid :=
  Claim7.holds_tied_plain_at .later [] _ _ _ _ fnExactTogetherOf_said (fun _ h => by cases h) (by kernel_rfl) (fun _ h => by cases h) fnExactTogetherOf_row_tie rfl ⟨rfl, rfl⟩ (by kernel_rfl) rfl fnExactTogetherOf_plain (by kernel_rfl)
#print axioms fnExactTogetherOf_card
end Go.Proofs.YtlhpkjhinikmmadDoor
