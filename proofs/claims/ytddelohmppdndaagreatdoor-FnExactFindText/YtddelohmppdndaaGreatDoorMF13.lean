/- Proved: for every Rules r and any two strings s and t, impl.FindText answers as the specification's FindText, writes nothing into its arguments, and its answer owns its memory, so the law FnExactFindText returns true and leaves the input as it was; the tables are as the program's own text lays them (the tied card). -/
import Derived.Test.YtddelohmppdndaaGreatDoorMF10
import Derived.Test.YtddelohmppdndaaGreatDoorMF12
import Derived.Test.YtddelohmppdndaaGreatDoorCards
import Derived.Test.YtddelohmppdndaaGreatDoorTie
import Derived.WalkKit
import Derived.ProofKit
import Derived.OpenShut
import Derived.LaidMore
import Derived.Stop.Joined
import Derived.ChangeOld
namespace Go.Proofs.YtddelohmppdndaaGreatDoor
open Go.ChangeShapes Go.WideShapes Go.ChangeAt Go.WideMaps Go.WideElems Go.RowKit

theorem fnExactFindText_law (a0 : Option Addr) (len0 cap0 : Nat) (es0 : List Ent) (sh0 : Bool) (lv0 : Int) (s1 : ByteArray) (s2 : ByteArray) (w : World) (w0 : ArgEnts w a0 len0 cap0 es0) (w1 : s1.size ≤ maxLen) (w2 : s2.size ≤ maxLen) (t_marks : Held w 0 marksF) (t_cap : Held w 1 capF) (t_oth : Held w 2 othF) :
    Calls Tryz.prog 3 #[.agg #[.slice a0 len0 cap0, .bool sh0, .int .i64 lv0], .string s1, .string s2] w fun e w' => e = .returned (.bool true) ∧ Below w.heap.size w w' :=
  findText_walk w a0 len0 cap0 es0 sh0 lv0 s1 s2 w1 w2 w0 fun _ _ _ hu hE hr h1 h2 => implFind_any s1 s2 h1 h2 hE hr (Tabs3.below (w := w) ⟨t_marks, t_cap, t_oth⟩ hu)

theorem own_fnExactFindText : ownKnob Tryz.prog.godebug = none := by kernel_rfl
theorem laidOut_fnExactFindText : laidOutB Tryz.prog = true := by kernel_rfl

open Go.ChangeMaps (open_string shut_string) in
set_option linter.unusedVariables false in
set_option maxRecDepth 100000 in
theorem fnExactFindText_contract (H : Type) (enc : TypeId × Value → H) (W : World) (base : Nat) (args : Array Value) (ds gs : List (DataW H)) (before : List MemPlace)
    (hval0 : ∀ (j : Nat) t v, Tryz.f3.params[j]? = some t → args[j]? = some v → Value.okWide Tryz.prog W .any base t v)
    (hW : DataW.Whole enc Tryz.prog Tryz.f3.params.toList Rows.fnExactFindTextSpec.vars false W args.toList ds gs before) (hL : laidMetH Tryz.prog Rows.fnExactFindTextRow.laid W) :
    Calls Tryz.prog 3 args W fun e W' => ∃ v, e = .returned v ∧ Rows.fnExactFindTextSpec.post enc Tryz.prog Tryz.f3 false true false false W args v W' := by
  have hval : ∀ (j : Nat) t v, Tryz.f3.params[j]? = some t → args[j]? = some v → Value.okWide Tryz.prog W .any base t v := hval0
  have hW' := hW
  obtain ⟨p, q, hA0, hV, rfl, hfz, hnd⟩ := hW
  have hA : DataW.TrodAll enc Tryz.prog W 0 (fun _ => true) true Tryz.f3.params.toList args.toList ds p := hA0
  rw [Tryz.params3] at hA hval
  obtain ⟨v0, vs0, d0, ds0, p0, q0, hargs, rfl, rfl, h0, r0⟩ := trodAll_cons hA
  obtain ⟨v1, vs1, d1, ds1, p1, q1, rfl, rfl, rfl, h1, r1⟩ := trodAll_cons r0
  obtain ⟨v2, vs2, d2, ds2, p2, q2, rfl, rfl, rfl, h2, r2⟩ := trodAll_cons r1
  obtain ⟨rfl, rfl, rfl⟩ := trodAll_nil r2
  obtain rfl : args = #[v0, v1, v2] := by cases args; simp_all
  obtain ⟨g1, g2, g3, rfl⟩ : ∃ g1 g2 g3, gs = [g1, g2, g3] := by
    have hg := trodVars_len hV
    match gs, hg with
    | [x1, x2, x3], _ => exact ⟨x1, x2, x3, rfl⟩
  have k0 := h0
  have lt0 : ∀ x ∈ p0, x.block < W.heap.size := by obtain ⟨m, hm⟩ := k0; exact DataW.trod_lt m _ _ _ hm
  obtain ⟨c0, e0, l0, y0, y0b, y0c, n0, hv0, _, _, f0, f0b, f0c⟩ := Joins.open_agg3 Tryz.underlying24 (by kernel_rfl) (by kernel_rfl) (hval 0 24 v0 rfl rfl) h0
  obtain ⟨a0, len0, cap0, hs0⟩ := Joins.slice_form Tryz.underlying22 f0
  obtain ⟨sh0, hb0, _⟩ := DataW.trod_bool Tryz.underlying4 f0b
  obtain ⟨lv0, hi0, _⟩ := DataW.trod_int Tryz.underlying3 f0c
  cases hs0
  cases hb0
  cases hi0
  subst hv0
  obtain ⟨es0, w0⟩ := open_entries f0
  obtain ⟨a1, rfl, rfl, rfl, w1⟩ := open_string Tryz.underlying9 (hval 1 9 v1 rfl rfl) h1
  obtain ⟨a2, rfl, rfl, rfl, w2⟩ := open_string Tryz.underlying9 (hval 2 9 v2 rfl rfl) h2
  have hL2 : laidMet Tryz.prog Rows.fnExactFindTextRow.laid W := hL
  have t_marks := marks_held hL2
  have t_cap := cap_held (laidMet.tail hL2)
  have t_oth := oth_held (laidMet.tail (laidMet.tail hL2))
  clear hA0 hval0
  refine (fnExactFindText_law a0 len0 cap0 es0 sh0 lv0 a1 a2 W w0 w1 w2 t_marks t_cap t_oth).mono fun e W' ⟨he, bel⟩ => ?_
  subst he
  exact ⟨_, rfl, _, _, _, [], _, q, hW', trodAll_mk1 (shut_bool Tryz.underlying4 _), (trodAll_cons_mk (Below.trod laidOut_fnExactFindText (by kernel_rfl) (of_decide_eq_true (by kernel_rfl)) k0 bel lt0) (trodAll_cons_mk (shut_string Tryz.underlying9 w1) (trodAll_cons_mk (shut_string Tryz.underlying9 w2) trodAll_mk0))), bel.trodVars laidOut_fnExactFindText (by kernel_rfl) hV, bel.frame _, fun h => by cases h⟩

theorem fnExactFindText_door (os : Os) (args : Array Value) : laidMetH Tryz.prog Rows.fnExactFindTextRow.laid ((World.doorLaid Tryz.prog 70 os).forCall (fun _ _ => 0) ⟨#[], args, []⟩).memory :=
  laidMetH_of_parts3 (fuel := 8) (laidMet_of_run' 8 (by kernel_rfl) (by kernel_rfl)) (by kernel_rfl) (by kernel_rfl)

set_option maxRecDepth 100000 in
theorem fnExactFindText_lifted (os : Os) (started : os.Started) (H : Type) (enc : TypeId × Value → H) :
    ReturnsInHanded {} Tryz.checked os 3 .any (fun w args => (Rows.fnExactFindTextSpec.pre enc Tryz.prog Tryz.f3 [] false w args ∧ laidMetH Tryz.prog Rows.fnExactFindTextRow.laid w) ∧ sizedMet enc Tryz.prog Tryz.f3 (OpenSpec.ofChange Rows.fnExactFindTextSpec) false w args)
      (Rows.fnExactFindTextSpec.post enc Tryz.prog Tryz.f3 false true false false) := by
  refine returnsInHanded_of_change_and (C := Tryz.checked) (X := fun w _ => laidMetH Tryz.prog Rows.fnExactFindTextRow.laid w) (fun _ _ _ hh h => h.of_heap hh) own_fnExactFindText started (by kernel_rfl) Tryz.func3
    (ChangeSpec.witness_shaped (enc := enc) (C := Tryz.checked) (os := os) (X := fun w _ => laidMetH Tryz.prog Rows.fnExactFindTextRow.laid w) false (World.doorLaid Tryz.prog 70 os) #[.agg #[.slice none 0 0, .bool false, .int .i64 0], .string ByteArray.empty, .string ByteArray.empty] 8 rfl (World.shaped_of_RefB (by kernel_rfl) (by kernel_rfl)) (by kernel_rfl) (by kernel_rfl) (by kernel_rfl) (fnExactFindText_door os _)) ?_
  intro W base args ds gs before hval0 hW _ _ hL _
  exact fnExactFindText_contract H enc W base args ds gs before hval0 hW hL

theorem fnExactFindText_said : Rows.FnExactFindTextSaid :=
  OpenClaim.holds_of_wide 3 Tryz.f3 rfl rfl rfl rfl rfl rfl rfl ⟨rfl, rfl, rfl, rfl, rfl⟩ rfl rfl rfl rfl rfl (by kernel_rfl) Tryz.func3 (by kernel_rfl)
    (of_decide_eq_true (by kernel_rfl)) (by unfold Func.isWrapper; first | (rw [if_pos (by decide +kernel)]; kernel_rfl) | (rw [if_neg (by decide +kernel)]; exact ⟨rfl, rfl⟩))
    (fun os started H enc _ => fnExactFindText_lifted os started H enc)

theorem fnExactFindText_plain (f : FuncId) (fn : Func) (hf : Tryz.pinned.checked.prog.funcNamed "loop.example/g00158/laws.FnExactFindText" = some f) (hfn : Tryz.pinned.checked.prog.funcs[f]? = some fn) :
    ∀ (j : Nat) t, fn.params[j]? = some t → Tryz.pinned.checked.prog.wantsStandIn t = false := by
  obtain rfl : f = 3 := Option.some.inj ((show Tryz.prog.funcNamed "loop.example/g00158/laws.FnExactFindText" = some 3 by kernel_rfl).symm.trans hf) |>.symm
  obtain rfl : fn = Tryz.f3 := (Option.some.inj (Tryz.func3.symm.trans hfn)).symm
  intro j t ht
  rw [Tryz.params3] at ht
  have hm : t = 24 ∨ t = 9 := by simpa using Array.mem_of_getElem? ht
  rcases hm with rfl | rfl
  · exact (show Tryz.prog.wantsStandIn 24 = false by kernel_rfl)
  · exact (show Tryz.prog.wantsStandIn 9 = false by kernel_rfl)

theorem fnExactFindText_card : Rows.FnExactFindTextCardSaid :=
  Claim7.holds_tied_plain_at .later [] _ _ _ _ fnExactFindText_said (fun _ h => by cases h) (by kernel_rfl) (fun _ h => by cases h) fnExactFindText_row_tie rfl ⟨rfl, rfl⟩ (by kernel_rfl) rfl (fun f fn hf hfn => ⟨by kernel_rfl, fnExactFindText_plain f fn hf hfn⟩) (by kernel_rfl)
#print axioms fnExactFindText_card
end Go.Proofs.YtddelohmppdndaaGreatDoor
