/- Proved: for every list of ints l, of whatever length, impl.SortMarks answers as the specification's SortMarks, writes nothing into its argument, and its answer owns its memory, so the law FnExactSortMarks returns true and leaves the input as it was; the table of marks is as the program's own text lays it (the tied card). -/
import Derived.Test.YtlhpkjhinikmmadDoorSSortM
import Derived.Test.YtlhpkjhinikmmadDoorIntS
import Derived.Test.YtlhpkjhinikmmadDoorRows1
import Derived.Test.YtlhpkjhinikmmadDoorCards
import Derived.Test.YtlhpkjhinikmmadDoorTie
import Derived.WalkKit
import Derived.ProofKit
import Derived.OpenShut
import Derived.LaidMore
import Derived.Stop.Joined
import Derived.ChangeOld
namespace Go.Proofs.YtlhpkjhinikmmadDoor
open Go.ChangeShapes Go.WideShapes Go.ChangeAt Go.WideMaps Go.WideElems Go.RowKit

theorem fnExactSortMarks_apart {w w' : World} {B B' : Nat} {v v' : Value} {zs zs' : List Int} (h : Ints w B v zs) (h' : Ints w' B' v' zs') (hB : w.heap.size ≤ B') : v.ownBlock = none ∨ v.ownBlock ≠ v'.ownBlock := by
  cases c : v.ownBlock with
  | none => exact .inl rfl
  | some k =>
    refine .inr fun e => ?_
    have l1 := (World.ownsRow.lt h k c).2
    have l2 := (World.ownsRow.lt h' k e.symm).1
    omega
theorem fnExactSortMarks_apart2 {w w' : World} {B B' : Nat} {v v' : Value} {zs zs' : List Int} (h : Ints w B v zs) (h' : Ints w' B' v' zs') (hB : w.heap.size ≤ B') : v'.ownBlock = none ∨ v'.ownBlock ≠ v.ownBlock := by
  cases c : v'.ownBlock with
  | none => exact .inl rfl
  | some k =>
    refine .inr fun e => ?_
    have l1 := (World.ownsRow.lt h k e.symm).2
    have l2 := (World.ownsRow.lt h' k c).1
    omega

set_option linter.unusedVariables false in
set_option maxRecDepth 100000 in
set_option maxHeartbeats 4000000 in
theorem fnExactSortMarks_law (a0 : Option Addr) (len0 cap0 : Nat) (z0 : List Int) (w : World) (w0 : IsRow .i64 w a0 len0 cap0 z0) (t_marks : Held w 0 marksF) :
    Calls Tryd.prog 6 #[.slice a0 len0 cap0] w fun e w' => e = .returned (.bool true) ∧ Below w.heap.size w w' := by
  have hmx : len0 ≤ 9223372036854775807 := by
    rcases w0 with ⟨_, rfl, _, _⟩ | ⟨_, _, h1, h2, _⟩
    · omega
    · unfold maxLen at h2; omega
  by_cases h1 : 1048576 < len0
  · go_enter Tryd.func6, Tryd.ntmps6
    go_wp2
    go_ret
    exact ⟨rfl, Below.refl _ _⟩
  have T := fun w1 hb => toInt_any w w1 a0 len0 cap0 z0 w0 hb (by omega)
  have hlen : (z0.take len0).length ≤ 1048576 := by simp; omega
  generalize z0.take len0 = zs at *
  have hla : (sortA zs).length ≤ 1073741824 := by unfold sortA; split; rw [sortM_length]; omega; simp
  have HH : Hid (∀ u, Below w.heap.size w u → Held u 0 marksF) := fun u hu => t_marks.below hu t_marks.lt
  have A := fun (u : World) (B : Nat) (v : Value) (h : Ints u B v zs) => specSort_any hlen h
  have I := fun (u : World) (B : Nat) (v : Value) (h : Ints u B v zs) (hh : Held u 0 marksF) => implSort_any hlen h hh
  generalize okR zs = ok at *
  generalize sortA zs = an at *
  clear w0 t_marks
  go_enter Tryd.func6, Tryd.ntmps6
  go_wp2_with fail
  refine (T _ (Below.refl _ _)).mono ?_
  rintro e w1 ⟨v1, rfl, i1, b1⟩
  go_wp2_with fail
  refine (A _ _ _ i1).mono ?_
  rintro e w2 ⟨v2, rfl, i2, b2⟩
  have c2 := b1.trans (b2.mono b1.size)
  go_wp2_with fail
  refine (T _ c2).mono ?_
  rintro e w3 ⟨v3, rfl, i3, b3⟩
  have c3 := c2.trans (b3.mono c2.size)
  go_wp2_with fail
  refine (I _ _ _ i3 (HH.out _ c3)).mono ?_
  rintro e w4 ⟨v4, rfl, i4, b4⟩
  have c4 := c3.trans (b4.mono c3.size)
  have i34 := i3.below b4
  have i24 := (i2.below b3).below b4
  go_wp2_with fail
  refine (eq_any i4 i24).mono ?_
  rintro e w5 ⟨rfl, n5, rfl⟩
  go_wp2_with fail
  refine (T _ (below_drewN c4 n5)).mono ?_
  rintro e w6 ⟨v6, rfl, i6, b6⟩
  have c6 := (below_drewN c4 n5).trans (b6.mono (below_drewN c4 n5).size)
  have i36 := (i34.drewN n5).below b6
  have i46 := (i4.drewN n5).below b6
  have i26 := (i24.drewN n5).below b6
  go_wp2_with fail
  refine (eq_any i36 i6).mono ?_
  rintro e w7 ⟨rfl, n7, rfl⟩
  go_wp2_with fail
  refine (mark_any (by omega) (i36.drewN n7)).mono ?_
  rintro e w8 ⟨rfl, i8, g8⟩
  have i48 : Ints w8 _ v4 an := World.ownsRow.kept (i46.drewN n7) g8 (fnExactSortMarks_apart2 i3 i4 (Nat.le_refl _))
  have i28 : Ints w8 _ v2 an := World.ownsRow.kept (i26.drewN n7) g8 (fnExactSortMarks_apart i2 i3 (Nat.le_refl _))
  have c8 : Below w.heap.size w w8 := Below.grown (below_drewN c6 n7) g8 c6.size (fun j hj => Nat.le_trans c2.size (World.ownsRow.lt i3 j hj).1)
  have hk8 : ¬ ((zs.length : Int) + 1 < 0) := by omega
  clear i36 i46 i26 i34 i24 i6 i8
  go_wp2_with fail
  refine (eq_any i48 i28).mono ?_
  rintro e w9 ⟨rfl, n9, rfl⟩
  go_wp2_with fail
  refine (mark_any (by omega) (i48.drewN n9)).mono ?_
  rintro e wA ⟨rfl, iA, gA⟩
  have i2A : Ints wA _ v2 an := World.ownsRow.kept (i28.drewN n9) gA (fnExactSortMarks_apart (i2.below b3) i4 (Nat.le_refl _))
  have cA : Below w.heap.size w wA := Below.grown (below_drewN c8 n9) gA c8.size (fun j hj => Nat.le_trans c3.size (World.ownsRow.lt i4 j hj).1)
  have hq8 : ¬ ((an.length : Int) + 1 < 0) := by omega
  go_wp2_with fail
  refine (held_any (by omega) iA).mono ?_
  rintro e wB ⟨rfl, rfl⟩
  go_wp2_with fail
  refine (T _ cA).mono ?_
  rintro e wC ⟨vC, rfl, iC, bC⟩
  have cC := cA.trans (bC.mono cA.size)
  go_wp2_with fail
  refine (I _ _ _ iC (HH.out _ cC)).mono ?_
  rintro e wD ⟨vD, rfl, iD, bD⟩
  have cD := cC.trans (bD.mono cC.size)
  have i2D := (i2A.below bC).below bD
  have iAD := (iA.below bC).below bD
  go_wp2_with fail
  refine (eq_any iD i2D).mono ?_
  rintro e wE ⟨rfl, nE, rfl⟩
  go_wp2_with fail
  refine (held_any (by omega) (iAD.drewN nE)).mono ?_
  rintro e wF ⟨rfl, rfl⟩
  go_wp2
  go_ret
  exact ⟨rfl, below_drewN cD nE⟩

theorem own_fnExactSortMarks : ownKnob Tryd.prog.godebug = none := by kernel_rfl
theorem laidOut_fnExactSortMarks : laidOutB Tryd.prog = true := by kernel_rfl

set_option linter.unusedVariables false in
set_option maxRecDepth 100000 in
theorem fnExactSortMarks_contract (H : Type) (enc : TypeId × Value → H) (W : World) (base : Nat) (args : Array Value) (ds gs : List (DataW H)) (before : List MemPlace)
    (hval0 : ∀ (j : Nat) t v, Tryd.f6.params[j]? = some t → args[j]? = some v → Value.okWide Tryd.prog W .any base t v)
    (hW : DataW.Whole enc Tryd.prog Tryd.f6.params.toList Rows.fnExactSortMarksSpec.vars false W args.toList ds gs before) (hL : laidMetH Tryd.prog Rows.fnExactSortMarksRow.laid W) :
    Calls Tryd.prog 6 args W fun e W' => ∃ v, e = .returned v ∧ Rows.fnExactSortMarksSpec.post enc Tryd.prog Tryd.f6 false true false false W args v W' := by
  have hval : ∀ (j : Nat) t v, Tryd.f6.params[j]? = some t → args[j]? = some v → Value.okWide Tryd.prog W .any base t v := hval0
  have hW' := hW
  obtain ⟨p, q, hA0, hV, rfl, hfz, hnd⟩ := hW
  have hA : DataW.TrodAll enc Tryd.prog W 0 (fun _ => true) true Tryd.f6.params.toList args.toList ds p := hA0
  rw [Tryd.params6] at hA hval
  obtain ⟨v0, vs0, d0, ds0, p0, q0, hargs, rfl, rfl, h0, r0⟩ := trodAll_cons hA
  obtain ⟨rfl, rfl, rfl⟩ := trodAll_nil r0
  obtain rfl : args = #[v0] := by cases args; simp_all
  obtain ⟨g1, rfl⟩ : ∃ g1, gs = [g1] := by
    have hg := trodVars_len hV
    match gs, hg with
    | [x1], _ => exact ⟨x1, rfl⟩
  obtain ⟨a0, len0, cap0, rfl⟩ := okWide_slice Tryd.underlying24 (hval 0 24 v0 rfl rfl)
  have k0 := h0
  have lt0 : ∀ x ∈ p0, x.block < W.heap.size := by obtain ⟨m, hm⟩ := k0; exact DataW.trod_lt m _ _ _ hm
  obtain ⟨z0, w0⟩ : ∃ zs, IsRow .i64 W a0 len0 cap0 zs := by
    obtain ⟨fuel, hf⟩ := h0
    rcases open_ints Tryd.underlying24 Tryd.underlying3 (by kernel_rfl) hf with ⟨hcs, _⟩ | ⟨x, l, c, zs, hcs, _, hl, hm, hz, _, hcell, hwz⟩
    · simp [Value.cells] at hcs
      obtain ⟨rfl, rfl, rfl⟩ := hcs
      exact ⟨[], .inl ⟨rfl, rfl, rfl, rfl⟩⟩
    · simp [Value.cells] at hcs
      obtain ⟨rfl, rfl, rfl⟩ := hcs
      exact ⟨zs, .inr ⟨_, rfl, hl, hm, by simpa using hz, hcell, hwz⟩⟩
  have hL2 : laidMet Tryd.prog Rows.fnExactSortMarksRow.laid W := hL
  have t_marks := marks_held hL2
  clear hA0 hval0
  refine (fnExactSortMarks_law a0 len0 cap0 z0 W w0 t_marks).mono fun e W' ⟨he, bel⟩ => ?_
  subst he
  exact ⟨_, rfl, _, _, _, [], _, q, hW', trodAll_mk1 (shut_bool Tryd.underlying4 _), (trodAll_cons_mk (Below.trod laidOut_fnExactSortMarks (by kernel_rfl) (of_decide_eq_true (by kernel_rfl)) k0 bel lt0) trodAll_mk0), bel.trodVars laidOut_fnExactSortMarks (by kernel_rfl) hV, bel.frame _, fun h => by cases h⟩

theorem fnExactSortMarks_door (os : Os) (args : Array Value) : laidMetH Tryd.prog Rows.fnExactSortMarksRow.laid ((World.doorLaid Tryd.prog 70 os).forCall (fun _ _ => 0) ⟨#[], args, []⟩).memory :=
  laidMetH_of_parts3 (fuel := 8) (laidMet_of_run' 8 (by kernel_rfl) (by kernel_rfl)) (by kernel_rfl) (by kernel_rfl)

set_option maxRecDepth 100000 in
theorem fnExactSortMarks_lifted (os : Os) (started : os.Started) (H : Type) (enc : TypeId × Value → H) :
    ReturnsInHanded {} Tryd.checked os 6 .any (fun w args => (Rows.fnExactSortMarksSpec.pre enc Tryd.prog Tryd.f6 [] false w args ∧ laidMetH Tryd.prog Rows.fnExactSortMarksRow.laid w) ∧ sizedMet enc Tryd.prog Tryd.f6 (OpenSpec.ofChange Rows.fnExactSortMarksSpec) false w args)
      (Rows.fnExactSortMarksSpec.post enc Tryd.prog Tryd.f6 false true false false) := by
  refine returnsInHanded_of_change_and (C := Tryd.checked) (X := fun w _ => laidMetH Tryd.prog Rows.fnExactSortMarksRow.laid w) (fun _ _ _ hh h => h.of_heap hh) own_fnExactSortMarks started (by kernel_rfl) Tryd.func6
    (ChangeSpec.witness_shaped (enc := enc) (C := Tryd.checked) (os := os) (X := fun w _ => laidMetH Tryd.prog Rows.fnExactSortMarksRow.laid w) false (World.doorLaid Tryd.prog 70 os) #[.slice none 0 0] 8 rfl (World.shaped_of_RefB (by kernel_rfl) (by kernel_rfl)) (by kernel_rfl) (by kernel_rfl) (by kernel_rfl) (fnExactSortMarks_door os _)) ?_
  intro W base args ds gs before hval0 hW _ _ hL _
  exact fnExactSortMarks_contract H enc W base args ds gs before hval0 hW hL

theorem fnExactSortMarks_said : Rows.FnExactSortMarksSaid :=
  OpenClaim.holds_of_wide 6 Tryd.f6 rfl rfl rfl rfl rfl rfl rfl ⟨rfl, rfl, rfl, rfl, rfl⟩ rfl rfl rfl rfl rfl (by kernel_rfl) Tryd.func6 (by kernel_rfl)
    (of_decide_eq_true (by kernel_rfl)) (by unfold Func.isWrapper; first | (rw [if_pos (by decide +kernel)]; kernel_rfl) | (rw [if_neg (by decide +kernel)]; exact ⟨rfl, rfl⟩))
    (fun os started H enc _ => fnExactSortMarks_lifted os started H enc)

theorem fnExactSortMarks_plain (f : FuncId) (fn : Func) (hf : Tryd.pinned.checked.prog.funcNamed "loop.example/g00158/laws.FnExactSortMarks" = some f) (hfn : Tryd.pinned.checked.prog.funcs[f]? = some fn) :
    false = Tryd.pinned.checked.prog.looks [] ∧ ∀ (j : Nat) t, fn.params[j]? = some t → Tryd.pinned.checked.prog.wantsStandIn t = false := by
  obtain rfl : f = 6 := Option.some.inj ((show Tryd.prog.funcNamed "loop.example/g00158/laws.FnExactSortMarks" = some 6 by kernel_rfl).symm.trans hf) |>.symm
  obtain rfl : fn = Tryd.f6 := (Option.some.inj (Tryd.func6.symm.trans hfn)).symm
  refine ⟨by kernel_rfl, fun j t ht => ?_⟩
  rw [Tryd.params6] at ht
  obtain rfl : t = 24 := by simpa using Array.mem_of_getElem? ht
  exact (show Tryd.prog.wantsStandIn 24 = false by kernel_rfl)

theorem fnExactSortMarks_card : Rows.FnExactSortMarksCardSaid :=
  Claim7.holds_tied_plain_at .later [] _ _ _ _ fnExactSortMarks_said (fun _ h => by cases h) (by kernel_rfl) (fun _ h => by cases h) fnExactSortMarks_row_tie rfl ⟨rfl, rfl⟩ (by kernel_rfl) rfl fnExactSortMarks_plain (by kernel_rfl)
#print axioms fnExactSortMarks_card

end Go.Proofs.YtlhpkjhinikmmadDoor
