/- Proved: for every Rules r, with whatever Entries, Shifted and Levels, impl.GoodRules answers as the specification's GoodRules and writes nothing into its argument, so the law FnExactGoodRules returns true and leaves the input as it was; the tables are as the program's own text lays them (the tied card). -/
import Derived.Test.YtdnelneamnmcnaeDoorIGood3
import Derived.Test.YtdnelneamnmcnaeDoorWGood
import Derived.Test.YtdnelneamnmcnaeDoorRows1
import Derived.Test.YtdnelneamnmcnaeDoorCards
import Derived.Test.YtdnelneamnmcnaeDoorTie
import Derived.WalkKit
import Derived.ProofKit
import Derived.OpenShut
import Derived.LaidMore
import Derived.Stop.Joined
import Derived.ChangeOld
namespace Go.Proofs.YtdnelneamnmcnaeDoor
open Go.ChangeShapes Go.WideShapes Go.ChangeAt Go.WideMaps Go.WideElems Go.RowKit

theorem fnExactGoodRules_law (a0 : Option Addr) (len0 cap0 : Nat) (es0 : List Ent) (sh0 : Bool) (lv0 : Int) (w : World) (w0 : ArgEnts w a0 len0 cap0 es0) (t_marks : Held w 0 marksF) (t_cap : Held w 2 capF) (t_oth : Held w 3 othF) :
    Calls Tryd.prog 6 #[.agg #[.slice a0 len0 cap0, .bool sh0, .int .i64 lv0]] w fun e w' => e = .returned (.bool true) ∧ Below w.heap.size w w' :=
  goodRules_walk w a0 len0 cap0 es0 sh0 lv0 w0 fun _ _ _ hu hE hr _ => implGood3_any hE hr (Tabs3.below (w := w) ⟨t_marks, t_cap, t_oth⟩ hu)

theorem own_fnExactGoodRules : ownKnob Tryd.prog.godebug = none := by kernel_rfl
theorem laidOut_fnExactGoodRules : laidOutB Tryd.prog = true := by kernel_rfl

set_option linter.unusedVariables false in
set_option maxRecDepth 100000 in
theorem fnExactGoodRules_contract (H : Type) (enc : TypeId × Value → H) (W : World) (base : Nat) (args : Array Value) (ds gs : List (DataW H)) (before : List MemPlace)
    (hval0 : ∀ (j : Nat) t v, Tryd.f6.params[j]? = some t → args[j]? = some v → Value.okWide Tryd.prog W .any base t v)
    (hW : DataW.Whole enc Tryd.prog Tryd.f6.params.toList Rows.fnExactGoodRulesSpec.vars false W args.toList ds gs before) (hL : laidMetH Tryd.prog Rows.fnExactGoodRulesRow.laid W) :
    Calls Tryd.prog 6 args W fun e W' => ∃ v, e = .returned v ∧ Rows.fnExactGoodRulesSpec.post enc Tryd.prog Tryd.f6 false true false false W args v W' := by
  have hval : ∀ (j : Nat) t v, Tryd.f6.params[j]? = some t → args[j]? = some v → Value.okWide Tryd.prog W .any base t v := hval0
  have hW' := hW
  obtain ⟨p, q, hA0, hV, rfl, hfz, hnd⟩ := hW
  have hA : DataW.TrodAll enc Tryd.prog W 0 (fun _ => true) true Tryd.f6.params.toList args.toList ds p := hA0
  rw [Tryd.params6] at hA hval
  obtain ⟨v0, vs0, d0, ds0, p0, q0, hargs, rfl, rfl, h0, r0⟩ := trodAll_cons hA
  obtain ⟨rfl, rfl, rfl⟩ := trodAll_nil r0
  obtain rfl : args = #[v0] := by cases args; simp_all
  obtain ⟨g1, g2, g3, rfl⟩ : ∃ g1 g2 g3, gs = [g1, g2, g3] := by
    have hg := trodVars_len hV
    match gs, hg with
    | [x1, x2, x3], _ => exact ⟨x1, x2, x3, rfl⟩
  have k0 := h0
  have lt0 : ∀ x ∈ p0, x.block < W.heap.size := by obtain ⟨m, hm⟩ := k0; exact DataW.trod_lt m _ _ _ hm
  obtain ⟨c0, e0, l0, y0, y0b, y0c, n0, hv0, _, _, f0, f0b, f0c⟩ := Joins.open_agg3 Tryd.underlying37 (by kernel_rfl) (by kernel_rfl) (hval 0 37 v0 rfl rfl) h0
  obtain ⟨a0, len0, cap0, hs0⟩ := Joins.slice_form Tryd.underlying35 f0
  obtain ⟨sh0, hb0, _⟩ := DataW.trod_bool Tryd.underlying4 f0b
  obtain ⟨lv0, hi0, _⟩ := DataW.trod_int Tryd.underlying3 f0c
  cases hs0
  cases hb0
  cases hi0
  subst hv0
  obtain ⟨es0, w0⟩ := open_entries f0
  have hL2 : laidMet Tryd.prog Rows.fnExactGoodRulesRow.laid W := hL
  have t_marks := marks_held hL2
  have t_cap := cap_held (laidMet.tail hL2)
  have t_oth := oth_held (laidMet.tail (laidMet.tail hL2))
  clear hA0 hval0
  refine (fnExactGoodRules_law a0 len0 cap0 es0 sh0 lv0 W w0 t_marks t_cap t_oth).mono fun e W' ⟨he, bel⟩ => ?_
  subst he
  exact ⟨_, rfl, _, _, _, [], _, q, hW', trodAll_mk1 (shut_bool Tryd.underlying4 _), (trodAll_cons_mk (Below.trod laidOut_fnExactGoodRules (by kernel_rfl) (of_decide_eq_true (by kernel_rfl)) k0 bel lt0) trodAll_mk0), bel.trodVars laidOut_fnExactGoodRules (by kernel_rfl) hV, bel.frame _, fun h => by cases h⟩

theorem fnExactGoodRules_door (os : Os) (args : Array Value) : laidMetH Tryd.prog Rows.fnExactGoodRulesRow.laid ((World.doorLaid Tryd.prog 70 os).forCall (fun _ _ => 0) ⟨#[], args, []⟩).memory :=
  laidMetH_of_parts3 (fuel := 8) (laidMet_of_run' 8 (by kernel_rfl) (by kernel_rfl)) (by kernel_rfl) (by kernel_rfl)

set_option maxRecDepth 100000 in
theorem fnExactGoodRules_lifted (os : Os) (started : os.Started) (H : Type) (enc : TypeId × Value → H) :
    ReturnsInHanded {} Tryd.checked os 6 .any (fun w args => (Rows.fnExactGoodRulesSpec.pre enc Tryd.prog Tryd.f6 [] false w args ∧ laidMetH Tryd.prog Rows.fnExactGoodRulesRow.laid w) ∧ sizedMet enc Tryd.prog Tryd.f6 (OpenSpec.ofChange Rows.fnExactGoodRulesSpec) false w args)
      (Rows.fnExactGoodRulesSpec.post enc Tryd.prog Tryd.f6 false true false false) := by
  refine returnsInHanded_of_change_and (C := Tryd.checked) (X := fun w _ => laidMetH Tryd.prog Rows.fnExactGoodRulesRow.laid w) (fun _ _ _ hh h => h.of_heap hh) own_fnExactGoodRules started (by kernel_rfl) Tryd.func6
    (ChangeSpec.witness_shaped (enc := enc) (C := Tryd.checked) (os := os) (X := fun w _ => laidMetH Tryd.prog Rows.fnExactGoodRulesRow.laid w) false (World.doorLaid Tryd.prog 70 os) #[.agg #[.slice none 0 0, .bool false, .int .i64 0]] 8 rfl (World.shaped_of_RefB (by kernel_rfl) (by kernel_rfl)) (by kernel_rfl) (by kernel_rfl) (by kernel_rfl) (fnExactGoodRules_door os _)) ?_
  intro W base args ds gs before hval0 hW _ _ hL _
  exact fnExactGoodRules_contract H enc W base args ds gs before hval0 hW hL

theorem fnExactGoodRules_said : Rows.FnExactGoodRulesSaid :=
  OpenClaim.holds_of_wide 6 Tryd.f6 rfl rfl rfl rfl rfl rfl rfl ⟨rfl, rfl, rfl, rfl, rfl⟩ rfl rfl rfl rfl rfl (by kernel_rfl) Tryd.func6 (by kernel_rfl)
    (of_decide_eq_true (by kernel_rfl)) (by unfold Func.isWrapper; first | (rw [if_pos (by decide +kernel)]; kernel_rfl) | (rw [if_neg (by decide +kernel)]; exact ⟨rfl, rfl⟩))
    (fun os started H enc _ => fnExactGoodRules_lifted os started H enc)

theorem fnExactGoodRules_plain (f : FuncId) (fn : Func) (hf : Tryd.pinned.checked.prog.funcNamed "loop.example/g00158/laws.FnExactGoodRules" = some f) (hfn : Tryd.pinned.checked.prog.funcs[f]? = some fn) :
    ∀ (j : Nat) t, fn.params[j]? = some t → Tryd.pinned.checked.prog.wantsStandIn t = false := by
  obtain rfl : f = 6 := Option.some.inj ((show Tryd.prog.funcNamed "loop.example/g00158/laws.FnExactGoodRules" = some 6 by kernel_rfl).symm.trans hf) |>.symm
  obtain rfl : fn = Tryd.f6 := (Option.some.inj (Tryd.func6.symm.trans hfn)).symm
  intro j t ht
  rw [Tryd.params6] at ht
  obtain rfl : t = 37 := by simpa using Array.mem_of_getElem? ht
  exact (show Tryd.prog.wantsStandIn 37 = false by kernel_rfl)

theorem fnExactGoodRules_card : Rows.FnExactGoodRulesCardSaid :=
  Claim7.holds_tied_plain_at .later [] _ _ _ _ fnExactGoodRules_said (fun _ h => by cases h) (by kernel_rfl) (fun _ h => by cases h) fnExactGoodRules_row_tie rfl ⟨rfl, rfl⟩ (by kernel_rfl) rfl (fun f fn hf hfn => ⟨by kernel_rfl, fnExactGoodRules_plain f fn hf hfn⟩) (by kernel_rfl)
#print axioms fnExactGoodRules_card
end Go.Proofs.YtdnelneamnmcnaeDoor
