/- Proved: for every string s, of whatever length, impl.CutsOf answers as the specification's CutsOf, its answer owns its memory, behind another call too, so the law FnExactCutsOf returns true and leaves the input as it was; the tables are as the program's own text lays them (the tied card). -/
import Derived.Test.YtanfebccenfffagDoorSCut
import Derived.Test.YtanfebccenfffagDoorICut
import Derived.Test.YtanfebccenfffagDoorIntS
import Derived.Test.YtanfebccenfffagDoorCards
import Derived.Test.YtanfebccenfffagDoorTie
import Derived.WalkKit
import Derived.ProofKit
import Derived.OpenShut
import Derived.ShutString
import Derived.LaidMore
import Derived.Stop.Joined
import Derived.ChangeOld
namespace Go.Proofs.YtanfebccenfffagDoor
open Go.ChangeShapes Go.WideShapes Go.ChangeAt Go.WideMaps Go.WideElems Go.RowKit

theorem cut_same (s : ByteArray) : cutA s = cutI s := rfl
theorem cutI_len (s : ByteArray) : (cutI s).length ≤ 201 := by
  unfold cutI
  split
  · rename_i h
    have h1 := (of_decide_eq_true h : s.size ≤ 200 ∧ _).1
    have h2 := cutsFrom_len s s.size 0
    unfold cutsL
    rw [List.length_append]
    simp
    omega
  · simp

set_option maxRecDepth 100000 in
set_option maxHeartbeats 2000000 in
theorem fnExactCutsOf_law (s : ByteArray) (w : World) (w0 : s.size ≤ maxLen) (t_marks : Held w 0 marksF) (t_cap : Held w 1 capF) (t_oth : Held w 2 othF) :
    Calls Tryd.prog 4 #[.string s] w fun e w' => e = .returned (.bool true) ∧ Below w.heap.size w w' := by
  unfold maxLen at w0
  by_cases h1 : 1048576 < s.size
  · have h18 : (1048576 : Int) < (s.size : Int) := by omega
    go_enter Tryd.func4, Tryd.ntmps4
    go_wp2
    go_ret
    exact ⟨rfl, Below.refl _ _⟩
  have h18 : ¬ (1048576 : Int) < (s.size : Int) := by omega
  have A := fun w => specCut_any s w (by omega)
  have B := fun (u : World) (hu : Below w.heap.size w u) => implCut_any s u (by omega) (Tabs3.below (w := w) ⟨t_marks, t_cap, t_oth⟩ hu)
  have hl := cutI_len s
  rw [cut_same] at A
  generalize cutI s = zs at *
  generalize ok4 s = ok at *
  clear t_marks t_cap t_oth
  go_enter Tryd.func4, Tryd.ntmps4
  go_wp2_with fail
  refine (A _).mono ?_
  rintro e w1 ⟨v0, rfl, i1, b1⟩
  go_wp2_with fail
  refine (B _ b1).mono ?_
  rintro e w2 ⟨v1, rfl, i2, b2⟩
  have j1 := i1.below b2
  go_wp2_with fail
  refine (eq_any i2 j1).mono ?_
  rintro e w3 ⟨rfl, n3, rfl⟩
  go_wp2_with fail
  refine (mark_any (by omega) (i2.drewN n3)).mono ?_
  rintro e w4 ⟨rfl, i4, g4⟩
  have hne : v0.ownBlock = none ∨ v0.ownBlock ≠ v1.ownBlock := by
    cases c : v0.ownBlock with
    | none => exact .inl rfl
    | some k =>
      refine .inr fun e => ?_
      have l1 := (World.ownsRow.lt i1 k c).2
      have l2 := (World.ownsRow.lt i2 k e.symm).1
      omega
  have k1 : Ints w4 w.heap.size v0 zs := World.ownsRow.kept (j1.drewN n3) g4 hne
  have hb4 : Below w.heap.size w w4 := Below.grown (below_drewN (b1.trans (b2.mono b1.size)) n3) g4 (Nat.le_trans b1.size b2.size) (fun j hj => Nat.le_trans b1.size (World.ownsRow.lt i2 j hj).1)
  go_wp2_with fail
  refine (held_any (by omega) i4).mono ?_
  rintro e w5 ⟨rfl, rfl⟩
  go_wp2_with fail
  refine (B _ hb4).mono ?_
  rintro e w6 ⟨v2, rfl, i6, b6⟩
  have k6 := k1.below b6
  have i46 := i4.below b6
  have hb6 := hb4.trans (b6.mono hb4.size)
  go_wp2_with fail
  refine (eq_any i6 k6).mono ?_
  rintro e w7 ⟨rfl, n7, rfl⟩
  go_wp2_with fail
  refine (held_any (by omega) (i46.drewN n7)).mono ?_
  rintro e w8 ⟨rfl, rfl⟩
  go_wp2
  go_ret
  exact ⟨rfl, below_drewN hb6 n7⟩

theorem own_fnExactCutsOf : ownKnob Tryd.prog.godebug = none := by kernel_rfl
theorem laidOut_fnExactCutsOf : laidOutB Tryd.prog = true := by kernel_rfl

open Go.ChangeMaps (open_string shut_string) in
set_option linter.unusedVariables false in
set_option maxRecDepth 100000 in
theorem fnExactCutsOf_contract (H : Type) (enc : TypeId × Value → H) (W : World) (base : Nat) (args : Array Value) (ds gs : List (DataW H)) (before : List MemPlace)
    (hval0 : ∀ (j : Nat) t v, Tryd.f4.params[j]? = some t → args[j]? = some v → Value.okWide Tryd.prog W .any base t v)
    (hW : DataW.Whole enc Tryd.prog Tryd.f4.params.toList Rows.fnExactCutsOfSpec.vars false W args.toList ds gs before) (hL : laidMetH Tryd.prog Rows.fnExactCutsOfRow.laid W) :
    Calls Tryd.prog 4 args W fun e W' => ∃ v, e = .returned v ∧ Rows.fnExactCutsOfSpec.post enc Tryd.prog Tryd.f4 false true false false W args v W' := by
  have hval : ∀ (j : Nat) t v, Tryd.f4.params[j]? = some t → args[j]? = some v → Value.okWide Tryd.prog W .any base t v := hval0
  have hW' := hW
  obtain ⟨p, q, hA0, hV, rfl, hfz, hnd⟩ := hW
  have hA : DataW.TrodAll enc Tryd.prog W 0 (fun _ => true) true Tryd.f4.params.toList args.toList ds p := hA0
  rw [Tryd.params4] at hA hval
  obtain ⟨v0, vs0, d0, ds0, p0, q0, hargs, rfl, rfl, h0, r0⟩ := trodAll_cons hA
  obtain ⟨rfl, rfl, rfl⟩ := trodAll_nil r0
  obtain rfl : args = #[v0] := by cases args; simp_all
  obtain ⟨g1, g2, g3, rfl⟩ : ∃ g1 g2 g3, gs = [g1, g2, g3] := by
    have hg := trodVars_len hV
    match gs, hg with
    | [x1, x2, x3], _ => exact ⟨x1, x2, x3, rfl⟩
  obtain ⟨a0, rfl, rfl, rfl, w0⟩ := open_string Tryd.underlying9 (hval 0 9 v0 rfl rfl) h0
  have hL2 : laidMet Tryd.prog Rows.fnExactCutsOfRow.laid W := hL
  have t_marks := marks_held hL2
  have t_cap := cap_held (laidMet.tail hL2)
  have t_oth := oth_held (laidMet.tail (laidMet.tail hL2))
  clear hA0 hval0
  refine (fnExactCutsOf_law a0 W w0 t_marks t_cap t_oth).mono fun e W' ⟨he, bel⟩ => ?_
  subst he
  exact ⟨_, rfl, _, _, _, [], _, q, hW', trodAll_mk1 (shut_bool Tryd.underlying4 _), (trodAll_cons_mk (shut_string Tryd.underlying9 w0) trodAll_mk0), bel.trodVars laidOut_fnExactCutsOf (by kernel_rfl) hV, bel.frame _, fun h => by cases h⟩

theorem fnExactCutsOf_door (os : Os) (args : Array Value) : laidMetH Tryd.prog Rows.fnExactCutsOfRow.laid ((World.doorLaid Tryd.prog 70 os).forCall (fun _ _ => 0) ⟨#[], args, []⟩).memory :=
  laidMetH_of_parts3 (fuel := 8) (laidMet_of_run' 8 (by kernel_rfl) (by kernel_rfl)) (by kernel_rfl) (by kernel_rfl)

set_option maxRecDepth 100000 in
theorem fnExactCutsOf_lifted (os : Os) (started : os.Started) (H : Type) (enc : TypeId × Value → H) :
    ReturnsInHanded {} Tryd.checked os 4 .any (fun w args => (Rows.fnExactCutsOfSpec.pre enc Tryd.prog Tryd.f4 [] false w args ∧ laidMetH Tryd.prog Rows.fnExactCutsOfRow.laid w) ∧ sizedMet enc Tryd.prog Tryd.f4 (OpenSpec.ofChange Rows.fnExactCutsOfSpec) false w args)
      (Rows.fnExactCutsOfSpec.post enc Tryd.prog Tryd.f4 false true false false) := by
  refine returnsInHanded_of_change_and (C := Tryd.checked) (X := fun w _ => laidMetH Tryd.prog Rows.fnExactCutsOfRow.laid w) (fun _ _ _ hh h => h.of_heap hh) own_fnExactCutsOf started (by kernel_rfl) Tryd.func4
    (ChangeSpec.witness_shaped (enc := enc) (C := Tryd.checked) (os := os) (X := fun w _ => laidMetH Tryd.prog Rows.fnExactCutsOfRow.laid w) false (World.doorLaid Tryd.prog 70 os) #[.string ByteArray.empty] 8 rfl (World.shaped_of_RefB (by kernel_rfl) (by kernel_rfl)) (by kernel_rfl) (by kernel_rfl) (by kernel_rfl) (fnExactCutsOf_door os _)) ?_
  intro W base args ds gs before hval0 hW _ _ hL _
  exact fnExactCutsOf_contract H enc W base args ds gs before hval0 hW hL

theorem fnExactCutsOf_said : Rows.FnExactCutsOfSaid :=
  OpenClaim.holds_of_wide 4 Tryd.f4 rfl rfl rfl rfl rfl rfl rfl ⟨rfl, rfl, rfl, rfl, rfl⟩ rfl rfl rfl rfl rfl (by kernel_rfl) Tryd.func4 (by kernel_rfl)
    (of_decide_eq_true (by kernel_rfl)) (by unfold Func.isWrapper; first | (rw [if_pos (by decide +kernel)]; kernel_rfl) | (rw [if_neg (by decide +kernel)]; exact ⟨rfl, rfl⟩))
    (fun os started H enc _ => fnExactCutsOf_lifted os started H enc)

theorem fnExactCutsOf_plain (f : FuncId) (fn : Func) (hf : Tryd.pinned.checked.prog.funcNamed "loop.example/g00158/laws.FnExactCutsOf" = some f) (hfn : Tryd.pinned.checked.prog.funcs[f]? = some fn) :
    ∀ (j : Nat) t, fn.params[j]? = some t → Tryd.pinned.checked.prog.wantsStandIn t = false := by
  obtain rfl : f = 4 := Option.some.inj ((show Tryd.prog.funcNamed "loop.example/g00158/laws.FnExactCutsOf" = some 4 by kernel_rfl).symm.trans hf) |>.symm
  obtain rfl : fn = Tryd.f4 := (Option.some.inj (Tryd.func4.symm.trans hfn)).symm
  intro j t ht
  rw [Tryd.params4] at ht
  obtain rfl : t = 9 := by simpa using Array.mem_of_getElem? ht
  exact (show Tryd.prog.wantsStandIn 9 = false by kernel_rfl)

theorem fnExactCutsOf_card : Rows.FnExactCutsOfCardSaid :=
  Claim7.holds_tied_plain_at .later [] _ _ _ _ fnExactCutsOf_said (fun _ h => by cases h) (by kernel_rfl) (fun _ h => by cases h) fnExactCutsOf_row_tie rfl ⟨rfl, rfl⟩ (by kernel_rfl) rfl (fun f fn hf hfn => ⟨by kernel_rfl, fnExactCutsOf_plain f fn hf hfn⟩) (by kernel_rfl)
#print axioms fnExactCutsOf_card
end Go.Proofs.YtanfebccenfffagDoor
