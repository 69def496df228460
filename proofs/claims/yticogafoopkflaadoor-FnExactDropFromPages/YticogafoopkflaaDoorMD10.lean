/- Proved: for every list of texts and every key, impl.DropFromPages answers as the specification's DropFromPages, writes into no argument, and its answer owns its memory, so the law FnExactDropFromPages returns true; the error variable errPageLacks is as the program's own text lays it (the tied card). -/
import Derived.Test.YticogafoopkflaaDoorMD9
import Derived.Lay
import Derived.MakeChecks
import Derived.Test.YticogafoopkflaaDoorCards
import Derived.Test.YticogafoopkflaaDoorTie
import Derived.WalkKit
import Derived.ProofKit
import Derived.OpenShut
import Derived.LaidMore
import Derived.LaidLaws
import Derived.Stop.LaidErr
import Derived.OpenVars
import Derived.Stop.Joined
import Derived.ChangeOld
namespace Go.Proofs.YticogafoopkflaaDoor
open Go.ChangeShapes Go.WideShapes Go.ChangeAt Go.WideMaps Go.WideElems Go.RowKit

theorem fnExactDropFromPages_law (a0 : Option Addr) (len cap : Nat) (ss : List ByteArray) (key : ByteArray) (w : World) (w0 : ArgStrs w a0 len cap ss) (w1 : key.size ≤ maxLen) (t_err : ∃ (ty : TypeId) (pv : Value), ErrG w ty pv) :
    Calls Tryd.prog 6 #[.slice a0 len cap, .string key] w fun e w' => e = .returned (.bool true) ∧ Below w.heap.size w w' := by
  obtain ⟨ty, pv, hg⟩ := t_err
  exact dropFromPages_walk w a0 len cap ss key w0 w1 hg

theorem star_es : "*" ++ "errors.errorString" = "*errors.errorString" := by decide
theorem row_es (u : TypeId) (h : Tryd.prog.typeName? 3 u = some "*errors.errorString") : u = 116 :=
  typeName_ptr_named (nm := "errors.errorString") (by rw [star_es]; kernel_rfl) (by kernel_rfl) (by decide) u (by rw [star_es]; exact h)
theorem g_err : Tryd.prog.globalNamed "loop.example/g00158/impl.errPageLacks" = some 0 := by kernel_rfl
theorem g_errT : (Tryd.prog.globals[0]?).map (·.type) = some 109 := by kernel_rfl
theorem cells_es : Tryd.prog.cellsOf 131 = 1 := by kernel_rfl
theorem cells_s : Tryd.prog.cellsOf 9 = 1 := by kernel_rfl

/-- The error variable, as the program's own text lays it. -/
theorem err_there {W : World} (h : laidMet Tryd.prog [("loop.example/g00158/impl.errPageLacks", Rows.laid_loop_example_g00158_impl_errPageLacks)] W) : ∃ (ty : TypeId) (pv : Value), ErrG W ty pv := by
  obtain ⟨a, s, hv, _, _, _⟩ := laid_sentinel h g_err g_errT Tryd.underlying109 row_es Tryd.underlying116 Tryd.underlying131 rfl rfl Tryd.underlying9 cells_es cells_s
  exact ⟨_, _, by unfold ErrG; simpa using World.var?_cell g_err hv 0⟩

theorem trodVars_len {H : Type} {enc : TypeId × Value → H} {P : Program} {w : World} {sp : Nat → Bool} : ∀ {ns : List String} {gs : List (DataW H)} {ps : List MemPlace}, DataW.TrodVars enc P w sp ns gs ps → gs.length = ns.length
  | [], [], _, _ => rfl
  | [], _ :: _, _, h => h.elim
  | _ :: _, [], _, h => h.elim
  | _ :: _, _ :: _, _, h => by
    obtain ⟨_, _, _, _, _, _, _, _, _, _, hs, _⟩ := h
    simp [trodVars_len hs]

theorem own_fnExactDropFromPages : ownKnob Tryd.prog.godebug = none := by kernel_rfl
theorem laidOut_fnExactDropFromPages : laidOutB Tryd.prog = true := by kernel_rfl

open Go.ChangeMaps (open_string shut_string) in
set_option linter.unusedVariables false in
set_option maxRecDepth 100000 in
theorem fnExactDropFromPages_contract (H : Type) (enc : TypeId × Value → H) (W : World) (base : Nat) (args : Array Value) (ds gs : List (DataW H)) (before : List MemPlace)
    (hval0 : ∀ (j : Nat) t v, Tryd.f6.params[j]? = some t → args[j]? = some v → Value.okWide Tryd.prog W .any base t v)
    (hW : DataW.Whole enc Tryd.prog Tryd.f6.params.toList Rows.fnExactDropFromPagesSpec.vars false W args.toList ds gs before) (hL : laidMetH Tryd.prog Rows.fnExactDropFromPagesRow.laid W) :
    Calls Tryd.prog 6 args W fun e W' => ∃ v, e = .returned v ∧ Rows.fnExactDropFromPagesSpec.post enc Tryd.prog Tryd.f6 false true false false W args v W' := by
  have hval : ∀ (j : Nat) t v, Tryd.f6.params[j]? = some t → args[j]? = some v → Value.okWide Tryd.prog W .any base t v := hval0
  have hW' := hW
  obtain ⟨p, q, hA0, hV, rfl, hfz, hnd⟩ := hW
  have hA : DataW.TrodAll enc Tryd.prog W 0 (fun _ => true) true Tryd.f6.params.toList args.toList ds p := hA0
  rw [Tryd.params6] at hA hval
  obtain ⟨v0, vs0, d0, ds0, p0, q0, hargs, rfl, rfl, h0, r0⟩ := trodAll_cons hA
  obtain ⟨v1, vs1, d1, ds1, p1, q1, rfl, rfl, rfl, h1, r1⟩ := trodAll_cons r0
  obtain ⟨rfl, rfl, rfl⟩ := trodAll_nil r1
  obtain rfl : args = #[v0, v1] := by cases args; simp_all
  obtain ⟨g1, rfl⟩ : ∃ g1, gs = [g1] := by
    have hg := trodVars_len hV
    match gs, hg with
    | [x1], _ => exact ⟨x1, rfl⟩
  obtain ⟨a0, len0, cap0, rfl⟩ := okWide_slice Tryd.underlying25 (hval 0 25 v0 rfl rfl)
  have k0 := h0
  have lt0 : ∀ x ∈ p0, x.block < W.heap.size := by obtain ⟨m, hm⟩ := k0; exact DataW.trod_lt m _ _ _ hm
  obtain ⟨ss0, w0⟩ : ∃ ss, ArgStrs W a0 len0 cap0 ss := by
    obtain ⟨fuel, hf⟩ := h0
    exact open_strings4 hf
  obtain ⟨a1, rfl, rfl, rfl, w1⟩ := open_string Tryd.underlying9 (hval 1 9 v1 rfl rfl) h1
  have hL2 : laidMet Tryd.prog Rows.fnExactDropFromPagesRow.laid W := hL
  have t_err := err_there hL2
  clear hA0 hval0
  refine (fnExactDropFromPages_law a0 len0 cap0 ss0 a1 W w0 w1 t_err).mono fun e W' ⟨he, bel⟩ => ?_
  subst he
  exact ⟨_, rfl, _, _, _, [], _, q, hW', trodAll_mk1 (shut_bool Tryd.underlying4 _), (trodAll_cons_mk (Below.trod laidOut_fnExactDropFromPages (by kernel_rfl) (of_decide_eq_true (by kernel_rfl)) k0 bel lt0) (trodAll_cons_mk (shut_string Tryd.underlying9 w1) trodAll_mk0)), bel.trodVars laidOut_fnExactDropFromPages (by kernel_rfl) hV, bel.frame _, fun h => by cases h⟩

theorem fnExactDropFromPages_door (os : Os) (args : Array Value) : laidMetH Tryd.prog Rows.fnExactDropFromPagesRow.laid ((World.doorLaid Tryd.prog 70 os).forCall (fun _ _ => 0) ⟨#[], args, []⟩).memory :=
  laidMetH_of_parts3 (fuel := 8) (laidMet_of_run' 8 (by kernel_rfl) (by kernel_rfl)) (by kernel_rfl) (by kernel_rfl)

set_option maxRecDepth 100000 in
theorem fnExactDropFromPages_lifted (os : Os) (started : os.Started) (H : Type) (enc : TypeId × Value → H) :
    ReturnsInHanded {} Tryd.checked os 6 .any (fun w args => (Rows.fnExactDropFromPagesSpec.pre enc Tryd.prog Tryd.f6 [] false w args ∧ laidMetH Tryd.prog Rows.fnExactDropFromPagesRow.laid w) ∧ sizedMet enc Tryd.prog Tryd.f6 (OpenSpec.ofChange Rows.fnExactDropFromPagesSpec) false w args)
      (Rows.fnExactDropFromPagesSpec.post enc Tryd.prog Tryd.f6 false true false false) := by
  refine returnsInHanded_of_change_and (C := Tryd.checked) (X := fun w _ => laidMetH Tryd.prog Rows.fnExactDropFromPagesRow.laid w) (fun _ _ _ hh h => h.of_heap hh) own_fnExactDropFromPages started (by kernel_rfl) Tryd.func6
    (ChangeSpec.witness_shaped (enc := enc) (C := Tryd.checked) (os := os) (X := fun w _ => laidMetH Tryd.prog Rows.fnExactDropFromPagesRow.laid w) false (World.doorLaid Tryd.prog 70 os) #[.slice none 0 0, .string ByteArray.empty] 8 rfl (World.shaped_of_RefB (by kernel_rfl) (by kernel_rfl)) (by kernel_rfl) (by kernel_rfl) (by kernel_rfl) (fnExactDropFromPages_door os _)) ?_
  intro W base args ds gs before hval0 hW _ _ hL _
  exact fnExactDropFromPages_contract H enc W base args ds gs before hval0 hW hL

theorem fnExactDropFromPages_said : Rows.FnExactDropFromPagesSaid :=
  OpenClaim.holds_of_wide 6 Tryd.f6 rfl rfl rfl rfl rfl rfl rfl ⟨rfl, rfl, rfl, rfl, rfl⟩ rfl rfl rfl rfl rfl (by kernel_rfl) Tryd.func6 (by kernel_rfl)
    (of_decide_eq_true (by kernel_rfl)) (by unfold Func.isWrapper; first | (rw [if_pos (by decide +kernel)]; kernel_rfl) | (rw [if_neg (by decide +kernel)]; exact ⟨rfl, rfl⟩))
    (fun os started H enc _ => fnExactDropFromPages_lifted os started H enc)

theorem fnExactDropFromPages_plain (f : FuncId) (fn : Func) (hf : Tryd.pinned.checked.prog.funcNamed "loop.example/g00158/laws.FnExactDropFromPages" = some f) (hfn : Tryd.pinned.checked.prog.funcs[f]? = some fn) :
    ∀ (j : Nat) t, fn.params[j]? = some t → Tryd.pinned.checked.prog.wantsStandIn t = false := by
  obtain rfl : f = 6 := Option.some.inj ((show Tryd.prog.funcNamed "loop.example/g00158/laws.FnExactDropFromPages" = some 6 by kernel_rfl).symm.trans hf) |>.symm
  obtain rfl : fn = Tryd.f6 := (Option.some.inj (Tryd.func6.symm.trans hfn)).symm
  intro j t ht
  rw [Tryd.params6] at ht
  have hm : t = 25 ∨ t = 9 := by simpa using Array.mem_of_getElem? ht
  rcases hm with rfl | rfl
  · exact (show Tryd.prog.wantsStandIn 25 = false by kernel_rfl)
  · exact (show Tryd.prog.wantsStandIn 9 = false by kernel_rfl)

theorem fnExactDropFromPages_card : Rows.FnExactDropFromPagesCardSaid :=
  Claim7.holds_tied_plain_at .later [] _ _ _ _ fnExactDropFromPages_said (fun _ h => by cases h) (by kernel_rfl) (fun _ h => by cases h) fnExactDropFromPages_row_tie rfl ⟨rfl, rfl⟩ (by kernel_rfl) rfl (fun f fn hf hfn => ⟨by kernel_rfl, fnExactDropFromPages_plain f fn hf hfn⟩) (by kernel_rfl)
#print axioms fnExactDropFromPages_card
end Go.Proofs.YticogafoopkflaaDoor
