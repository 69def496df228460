/- Proved: for every list of ints l, of whatever length, impl.IsNormalD answers as the specification's IsNormalD and writes nothing into its argument, so the law FnExactIsNormalD returns true and leaves the input as it was; the tables are as the program's own text lays them (the tied card). -/
import Derived.Test.YtlhpkjhinikmmaeDoorIIs
import Derived.Test.YtlhpkjhinikmmaeDoorEqI
import Derived.Test.YtlhpkjhinikmmaeDoorRows1
import Derived.Test.YtlhpkjhinikmmaeDoorCards
import Derived.Test.YtlhpkjhinikmmaeDoorTie
import Derived.WalkKit
import Derived.ProofKit
import Derived.OpenShut
import Derived.LaidMore
import Derived.Stop.Joined
import Derived.ChangeOld
namespace Go.Proofs.YtlhpkjhinikmmaeDoor
open Go.ChangeShapes Go.WideShapes Go.ChangeAt Go.WideMaps Go.WideElems Go.RowKit

set_option linter.unusedVariables false in
set_option maxRecDepth 100000 in
set_option maxHeartbeats 4000000 in
theorem fnExactIsNormalD_law (a0 : Option Addr) (len0 cap0 : Nat) (z0 : List Int) (w : World) (w0 : IsRow .i64 w a0 len0 cap0 z0) (t_marks : Held w 0 marksF) (t_cap : Held w 1 capF) (t_oth : Held w 2 othF) :
    Calls Tryd.prog 3 #[.slice a0 len0 cap0] w fun e w' => e = .returned (.bool true) ∧ Below w.heap.size w w' := by
  have hmx : len0 ≤ 9223372036854775807 := by
    rcases w0 with ⟨_, rfl, _, _⟩ | ⟨_, _, h1, h2, _⟩
    · omega
    · unfold maxLen at h2; omega
  by_cases h1 : 1048576 < len0
  · go_enter Tryd.func3, Tryd.ntmps3
    go_wp2
    go_ret
    exact ⟨rfl, Below.refl _ _⟩
  have T := fun w1 hb => toInt_any w w1 a0 len0 cap0 z0 w0 hb (by omega)
  have hlen : (z0.take len0).length ≤ 1048576 := by simp; omega
  generalize z0.take len0 = zs at *
  have HH : Hid (∀ u, Below w.heap.size w u → Held u 0 marksF ∧ Held u 1 capF ∧ Held u 2 othF) := fun u hu => ⟨t_marks.below hu t_marks.lt, t_cap.below hu t_cap.lt, t_oth.below hu t_oth.lt⟩
  have A := fun (u : World) (B : Nat) (v : Value) (h : Ints u B v zs) => specIs_any hlen h
  have I := fun (u : World) (B : Nat) (v : Value) (h : Ints u B v zs) (hh : Held u 0 marksF ∧ Held u 1 capF ∧ Held u 2 othF) => implIsN_any hlen h hh.1 hh.2.1 hh.2.2
  generalize isD zs = ia at *
  generalize okR zs = ok at *
  clear w0 t_marks t_cap t_oth
  go_enter Tryd.func3, Tryd.ntmps3
  go_wp2_with fail
  refine (T _ (Below.refl _ _)).mono ?_
  rintro e w1 ⟨v1, rfl, i1, b1⟩
  go_wp2_with fail
  refine (A _ _ _ i1).mono ?_
  rintro e w2 ⟨rfl, b2⟩
  have c2 := b1.trans (b2.mono b1.size)
  go_wp2_with fail
  refine (T _ c2).mono ?_
  rintro e w3 ⟨v3, rfl, i3, b3⟩
  have c3 := c2.trans (b3.mono c2.size)
  go_wp2_with fail
  refine (I _ _ _ i3 (HH.out _ c3)).mono ?_
  rintro e w4 ⟨rfl, b4⟩
  have c4 := c3.trans (b4.mono c3.size)
  have i34 := i3.below b4
  clear A I
  go_wp2_with fail
  refine (T _ c4).mono ?_
  rintro e w5 ⟨v5, rfl, i5, b5⟩
  have c5 := c4.trans (b5.mono c4.size)
  go_wp2_with fail
  refine (eq_any (i34.below b5) i5).mono ?_
  rintro e w6 ⟨rfl, n6, rfl⟩
  clear T
  go_wp2
  go_ret
  exact ⟨rfl, below_drewN c5 n6⟩

theorem own_fnExactIsNormalD : ownKnob Tryd.prog.godebug = none := by kernel_rfl
theorem laidOut_fnExactIsNormalD : laidOutB Tryd.prog = true := by kernel_rfl

set_option linter.unusedVariables false in
set_option maxRecDepth 100000 in
theorem fnExactIsNormalD_contract (H : Type) (enc : TypeId × Value → H) (W : World) (base : Nat) (args : Array Value) (ds gs : List (DataW H)) (before : List MemPlace)
    (hval0 : ∀ (j : Nat) t v, Tryd.f3.params[j]? = some t → args[j]? = some v → Value.okWide Tryd.prog W .any base t v)
    (hW : DataW.Whole enc Tryd.prog Tryd.f3.params.toList Rows.fnExactIsNormalDSpec.vars false W args.toList ds gs before) (hL : laidMetH Tryd.prog Rows.fnExactIsNormalDRow.laid W) :
    Calls Tryd.prog 3 args W fun e W' => ∃ v, e = .returned v ∧ Rows.fnExactIsNormalDSpec.post enc Tryd.prog Tryd.f3 false true false false W args v W' := by
  have hval : ∀ (j : Nat) t v, Tryd.f3.params[j]? = some t → args[j]? = some v → Value.okWide Tryd.prog W .any base t v := hval0
  have hW' := hW
  obtain ⟨p, q, hA0, hV, rfl, hfz, hnd⟩ := hW
  have hA : DataW.TrodAll enc Tryd.prog W 0 (fun _ => true) true Tryd.f3.params.toList args.toList ds p := hA0
  rw [Tryd.params3] at hA hval
  obtain ⟨v0, vs0, d0, ds0, p0, q0, hargs, rfl, rfl, h0, r0⟩ := trodAll_cons hA
  obtain ⟨rfl, rfl, rfl⟩ := trodAll_nil r0
  obtain rfl : args = #[v0] := by cases args; simp_all
  obtain ⟨g1, g2, g3, rfl⟩ : ∃ g1 g2 g3, gs = [g1, g2, g3] := by
    have hg := trodVars_len hV
    match gs, hg with
    | [x1, x2, x3], _ => exact ⟨x1, x2, x3, rfl⟩
  obtain ⟨a0, len0, cap0, rfl⟩ := okWide_slice Tryd.underlying22 (hval 0 22 v0 rfl rfl)
  have k0 := h0
  have lt0 : ∀ x ∈ p0, x.block < W.heap.size := by obtain ⟨m, hm⟩ := k0; exact DataW.trod_lt m _ _ _ hm
  obtain ⟨z0, w0⟩ : ∃ zs, IsRow .i64 W a0 len0 cap0 zs := by
    obtain ⟨fuel, hf⟩ := h0
    rcases open_ints Tryd.underlying22 Tryd.underlying3 (by kernel_rfl) hf with ⟨hcs, _⟩ | ⟨x, l, c, zs, hcs, _, hl, hm, hz, _, hcell, hwz⟩
    · simp [Value.cells] at hcs
      obtain ⟨rfl, rfl, rfl⟩ := hcs
      exact ⟨[], .inl ⟨rfl, rfl, rfl, rfl⟩⟩
    · simp [Value.cells] at hcs
      obtain ⟨rfl, rfl, rfl⟩ := hcs
      exact ⟨zs, .inr ⟨_, rfl, hl, hm, by simpa using hz, hcell, hwz⟩⟩
  have hL2 : laidMet Tryd.prog Rows.fnExactIsNormalDRow.laid W := hL
  have t_marks := marks_held hL2
  have t_cap := cap_held (laidMet.tail hL2)
  have t_oth := oth_held (laidMet.tail (laidMet.tail hL2))
  clear hA0 hval0
  refine (fnExactIsNormalD_law a0 len0 cap0 z0 W w0 t_marks t_cap t_oth).mono fun e W' ⟨he, bel⟩ => ?_
  subst he
  exact ⟨_, rfl, _, _, _, [], _, q, hW', trodAll_mk1 (shut_bool Tryd.underlying4 _), (trodAll_cons_mk (Below.trod laidOut_fnExactIsNormalD (by kernel_rfl) (of_decide_eq_true (by kernel_rfl)) k0 bel lt0) trodAll_mk0), bel.trodVars laidOut_fnExactIsNormalD (by kernel_rfl) hV, bel.frame _, fun h => by cases h⟩

theorem fnExactIsNormalD_door (os : Os) (args : Array Value) : laidMetH Tryd.prog Rows.fnExactIsNormalDRow.laid ((World.doorLaid Tryd.prog 70 os).forCall (fun _ _ => 0) ⟨#[], args, []⟩).memory :=
  laidMetH_of_parts3 (fuel := 8) (laidMet_of_run' 8 (by kernel_rfl) (by kernel_rfl)) (by kernel_rfl) (by kernel_rfl)

set_option maxRecDepth 100000 in
theorem fnExactIsNormalD_lifted (os : Os) (started : os.Started) (H : Type) (enc : TypeId × Value → H) :
    ReturnsInHanded {} Tryd.checked os 3 .any (fun w args => (Rows.fnExactIsNormalDSpec.pre enc Tryd.prog Tryd.f3 [] false w args ∧ laidMetH Tryd.prog Rows.fnExactIsNormalDRow.laid w) ∧ sizedMet enc Tryd.prog Tryd.f3 (OpenSpec.ofChange Rows.fnExactIsNormalDSpec) false w args)
      (Rows.fnExactIsNormalDSpec.post enc Tryd.prog Tryd.f3 false true false false) := by
  refine returnsInHanded_of_change_and (C := Tryd.checked) (X := fun w _ => laidMetH Tryd.prog Rows.fnExactIsNormalDRow.laid w) (fun _ _ _ hh h => h.of_heap hh) own_fnExactIsNormalD started (by kernel_rfl) Tryd.func3
    (ChangeSpec.witness_shaped (enc := enc) (C := Tryd.checked) (os := os) (X := fun w _ => laidMetH Tryd.prog Rows.fnExactIsNormalDRow.laid w) false (World.doorLaid Tryd.prog 70 os) #[.slice none 0 0] 8 rfl (World.shaped_of_RefB (by kernel_rfl) (by kernel_rfl)) (by kernel_rfl) (by kernel_rfl) (by kernel_rfl) (fnExactIsNormalD_door os _)) ?_
  intro W base args ds gs before hval0 hW _ _ hL _
  exact fnExactIsNormalD_contract H enc W base args ds gs before hval0 hW hL

theorem fnExactIsNormalD_said : Rows.FnExactIsNormalDSaid :=
  OpenClaim.holds_of_wide 3 Tryd.f3 rfl rfl rfl rfl rfl rfl rfl ⟨rfl, rfl, rfl, rfl, rfl⟩ rfl rfl rfl rfl rfl (by kernel_rfl) Tryd.func3 (by kernel_rfl)
    (of_decide_eq_true (by kernel_rfl)) (by unfold Func.isWrapper; first | (rw [if_pos (by decide +kernel)]; kernel_rfl) | (rw [if_neg (by decide +kernel)]; exact ⟨rfl, rfl⟩))
    (fun os started H enc _ => fnExactIsNormalD_lifted os started H enc)

theorem fnExactIsNormalD_plain (f : FuncId) (fn : Func) (hf : Tryd.pinned.checked.prog.funcNamed "loop.example/g00158/laws.FnExactIsNormalD" = some f) (hfn : Tryd.pinned.checked.prog.funcs[f]? = some fn) :
    false = Tryd.pinned.checked.prog.looks [] ∧ ∀ (j : Nat) t, fn.params[j]? = some t → Tryd.pinned.checked.prog.wantsStandIn t = false := by
  obtain rfl : f = 3 := Option.some.inj ((show Tryd.prog.funcNamed "loop.example/g00158/laws.FnExactIsNormalD" = some 3 by kernel_rfl).symm.trans hf) |>.symm
  obtain rfl : fn = Tryd.f3 := (Option.some.inj (Tryd.func3.symm.trans hfn)).symm
  refine ⟨by kernel_rfl, fun j t ht => ?_⟩
  rw [Tryd.params3] at ht
  obtain rfl : t = 22 := by simpa using Array.mem_of_getElem? ht
  exact (show Tryd.prog.wantsStandIn 22 = false by kernel_rfl)

theorem fnExactIsNormalD_card : Rows.FnExactIsNormalDCardSaid :=
  Claim7.holds_tied_plain_at .later [] _ _ _ _ fnExactIsNormalD_said (fun _ h => by cases h) (by kernel_rfl) (fun _ h => by cases h) fnExactIsNormalD_row_tie rfl ⟨rfl, rfl⟩ (by kernel_rfl) rfl fnExactIsNormalD_plain (by kernel_rfl)
#print axioms fnExactIsNormalD_card
end Go.Proofs.YtlhpkjhinikmmaeDoor
