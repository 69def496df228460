/- Proved: for every two lists of ints a, b, of whatever length, impl.SameRunes answers as the specification's SameRunes and writes nothing into its arguments, so the law FnExactSameRunes returns true and leaves the inputs as they were; the tables are as the program's own text lays them (the tied card). -/
import Derived.Test.YtlhpkjhinikmmaeDoorIIs
import Derived.Test.YtlhpkjhinikmmaeDoorEqI
import Derived.Test.YtlhpkjhinikmmaeDoorRows1
import Derived.Test.YtlhpkjhinikmmaeDoorCards
import Derived.Test.YtlhpkjhinikmmaeDoorTie
import Derived.WalkKit
import Derived.ProofKit
import Derived.OpenShut
import Derived.LaidMore
import Derived.Stop.Joined
import Derived.ChangeOld
namespace Go.Proofs.YtlhpkjhinikmmaeDoor
open Go.ChangeShapes Go.WideShapes Go.ChangeAt Go.WideMaps Go.WideElems Go.RowKit

theorem row_len {w : World} {a : Option Addr} {len cap : Nat} {zs : List Int} (h : IsRow .i64 w a len cap zs) : len ≤ 9223372036854775807 := by
  rcases h with ⟨_, rfl, _, _⟩ | ⟨_, _, h1, h2, _⟩
  · omega
  · unfold maxLen at h2; omega

set_option linter.unusedVariables false in
set_option maxRecDepth 100000 in
set_option maxHeartbeats 4000000 in
theorem fnExactSameRunes_law (a0 : Option Addr) (len0 cap0 : Nat) (z0 : List Int) (a1 : Option Addr) (len1 cap1 : Nat) (z1 : List Int) (w : World) (w0 : IsRow .i64 w a0 len0 cap0 z0) (w1 : IsRow .i64 w a1 len1 cap1 z1) (t_marks : Held w 0 marksF) (t_cap : Held w 1 capF) (t_oth : Held w 2 othF) :
    Calls Tryd.prog 4 #[.slice a0 len0 cap0, .slice a1 len1 cap1] w fun e w' => e = .returned (.bool true) ∧ Below w.heap.size w w' := by
  have hmx := row_len w0
  have hmy := row_len w1
  by_cases h1 : 1048576 < len0
  · go_enter Tryd.func4, Tryd.ntmps4
    go_wp2
    go_ret
    exact ⟨rfl, Below.refl _ _⟩
  by_cases h2 : 1048576 < len1
  · go_enter Tryd.func4, Tryd.ntmps4
    go_wp2
    go_ret
    exact ⟨rfl, Below.refl _ _⟩
  have T := fun u hb => toInt_any w u a0 len0 cap0 z0 w0 hb (by omega)
  have U := fun u hb => toInt_any w u a1 len1 cap1 z1 w1 hb (by omega)
  have hlen : (z0.take len0).length ≤ 1048576 := by simp; omega
  have hlen1 : (z1.take len1).length ≤ 1048576 := by simp; omega
  generalize z0.take len0 = zs at *
  generalize z1.take len1 = ys at *
  have HH : Hid (∀ u, Below w.heap.size w u → Held u 0 marksF ∧ Held u 1 capF ∧ Held u 2 othF) := fun u hu => ⟨t_marks.below hu t_marks.lt, t_cap.below hu t_cap.lt, t_oth.below hu t_oth.lt⟩
  have A := fun (u : World) (B B' : Nat) (v v' : Value) (h : Ints u B v zs) (h' : Ints u B' v' ys) => specSame_any hlen hlen1 h h'
  have I := fun (u : World) (B B' : Nat) (v v' : Value) (h : Ints u B v zs) (h' : Ints u B' v' ys) (hh : Held u 0 marksF ∧ Held u 1 capF ∧ Held u 2 othF) => implSameN_any hlen hlen1 h h' hh.1 hh.2.1 hh.2.2
  generalize sameD zs ys = ia at *
  generalize (okR zs && okR ys) = ok at *
  clear w0 w1 t_marks t_cap t_oth
  go_enter Tryd.func4, Tryd.ntmps4
  go_wp2_with fail
  refine (T _ (Below.refl _ _)).mono ?_
  rintro e w1 ⟨v1, rfl, i1, b1⟩
  go_wp2_with fail
  refine (U _ b1).mono ?_
  rintro e w2 ⟨v2, rfl, i2, b2⟩
  have c2 := b1.trans (b2.mono b1.size)
  go_wp2_with fail
  refine (A _ _ _ _ _ (i1.below b2) i2).mono ?_
  rintro e w3 ⟨rfl, b3⟩
  have c3 := c2.trans (b3.mono c2.size)
  go_wp2_with fail
  refine (T _ c3).mono ?_
  rintro e w4 ⟨v4, rfl, i4, b4⟩
  have c4 := c3.trans (b4.mono c3.size)
  go_wp2_with fail
  refine (U _ c4).mono ?_
  rintro e w5 ⟨v5, rfl, i5, b5⟩
  have c5 := c4.trans (b5.mono c4.size)
  have i45 := i4.below b5
  go_wp2_with fail
  refine (I _ _ _ _ _ i45 i5 (HH.out _ c5)).mono ?_
  rintro e w6 ⟨rfl, b6⟩
  have c6 := c5.trans (b6.mono c5.size)
  have i46 := i45.below b6
  have i56 := i5.below b6
  clear A I i1 i2 i4 i5 i45
  go_wp2_with fail
  refine (T _ c6).mono ?_
  rintro e w7 ⟨v7, rfl, i7, b7⟩
  have c7 := c6.trans (b7.mono c6.size)
  go_wp2_with fail
  refine (eq_any (i46.below b7) i7).mono ?_
  rintro e w8 ⟨rfl, n8, rfl⟩
  have c8 := below_drewN c7 n8
  have i58 := (i56.below b7).drewN n8
  go_wp2_with fail
  refine (U _ c8).mono ?_
  rintro e w9 ⟨v9, rfl, i9, b9⟩
  have c9 := c8.trans (b9.mono c8.size)
  go_wp2_with fail
  refine (eq_any (i58.below b9) i9).mono ?_
  rintro e wA ⟨rfl, nA, rfl⟩
  clear T U
  go_wp2
  go_ret
  exact ⟨rfl, below_drewN c9 nA⟩

theorem own_fnExactSameRunes : ownKnob Tryd.prog.godebug = none := by kernel_rfl
theorem laidOut_fnExactSameRunes : laidOutB Tryd.prog = true := by kernel_rfl

set_option linter.unusedVariables false in
set_option maxRecDepth 100000 in
theorem fnExactSameRunes_contract (H : Type) (enc : TypeId × Value → H) (W : World) (base : Nat) (args : Array Value) (ds gs : List (DataW H)) (before : List MemPlace)
    (hval0 : ∀ (j : Nat) t v, Tryd.f4.params[j]? = some t → args[j]? = some v → Value.okWide Tryd.prog W .any base t v)
    (hW : DataW.Whole enc Tryd.prog Tryd.f4.params.toList Rows.fnExactSameRunesSpec.vars false W args.toList ds gs before) (hL : laidMetH Tryd.prog Rows.fnExactSameRunesRow.laid W) :
    Calls Tryd.prog 4 args W fun e W' => ∃ v, e = .returned v ∧ Rows.fnExactSameRunesSpec.post enc Tryd.prog Tryd.f4 false true false false W args v W' := by
  have hval : ∀ (j : Nat) t v, Tryd.f4.params[j]? = some t → args[j]? = some v → Value.okWide Tryd.prog W .any base t v := hval0
  have hW' := hW
  obtain ⟨p, q, hA0, hV, rfl, hfz, hnd⟩ := hW
  have hA : DataW.TrodAll enc Tryd.prog W 0 (fun _ => true) true Tryd.f4.params.toList args.toList ds p := hA0
  rw [Tryd.params4] at hA hval
  obtain ⟨v0, vs0, d0, ds0, p0, q0, hargs, rfl, rfl, h0, r0⟩ := trodAll_cons hA
  obtain ⟨v1, vs1, d1, ds1, p1, q1, rfl, rfl, rfl, h1, r1⟩ := trodAll_cons r0
  obtain ⟨rfl, rfl, rfl⟩ := trodAll_nil r1
  obtain rfl : args = #[v0, v1] := by cases args; simp_all
  obtain ⟨g1, g2, g3, rfl⟩ : ∃ g1 g2 g3, gs = [g1, g2, g3] := by
    have hg := trodVars_len hV
    match gs, hg with
    | [x1, x2, x3], _ => exact ⟨x1, x2, x3, rfl⟩
  obtain ⟨a0, len0, cap0, rfl⟩ := okWide_slice Tryd.underlying22 (hval 0 22 v0 rfl rfl)
  have k0 := h0
  have lt0 : ∀ x ∈ p0, x.block < W.heap.size := by obtain ⟨m, hm⟩ := k0; exact DataW.trod_lt m _ _ _ hm
  obtain ⟨z0, w0⟩ : ∃ zs, IsRow .i64 W a0 len0 cap0 zs := by
    obtain ⟨fuel, hf⟩ := h0
    rcases open_ints Tryd.underlying22 Tryd.underlying3 (by kernel_rfl) hf with ⟨hcs, _⟩ | ⟨x, l, c, zs, hcs, _, hl, hm, hz, _, hcell, hwz⟩
    · simp [Value.cells] at hcs
      obtain ⟨rfl, rfl, rfl⟩ := hcs
      exact ⟨[], .inl ⟨rfl, rfl, rfl, rfl⟩⟩
    · simp [Value.cells] at hcs
      obtain ⟨rfl, rfl, rfl⟩ := hcs
      exact ⟨zs, .inr ⟨_, rfl, hl, hm, by simpa using hz, hcell, hwz⟩⟩
  obtain ⟨a1, len1, cap1, rfl⟩ := okWide_slice Tryd.underlying22 (hval 1 22 v1 rfl rfl)
  have k1 := h1
  have lt1 : ∀ x ∈ p1, x.block < W.heap.size := by obtain ⟨m, hm⟩ := k1; exact DataW.trod_lt m _ _ _ hm
  obtain ⟨z1, w1⟩ : ∃ zs, IsRow .i64 W a1 len1 cap1 zs := by
    obtain ⟨fuel, hf⟩ := h1
    rcases open_ints Tryd.underlying22 Tryd.underlying3 (by kernel_rfl) hf with ⟨hcs, _⟩ | ⟨x, l, c, zs, hcs, _, hl, hm, hz, _, hcell, hwz⟩
    · simp [Value.cells] at hcs
      obtain ⟨rfl, rfl, rfl⟩ := hcs
      exact ⟨[], .inl ⟨rfl, rfl, rfl, rfl⟩⟩
    · simp [Value.cells] at hcs
      obtain ⟨rfl, rfl, rfl⟩ := hcs
      exact ⟨zs, .inr ⟨_, rfl, hl, hm, by simpa using hz, hcell, hwz⟩⟩
  have hL2 : laidMet Tryd.prog Rows.fnExactSameRunesRow.laid W := hL
  have t_marks := marks_held hL2
  have t_cap := cap_held (laidMet.tail hL2)
  have t_oth := oth_held (laidMet.tail (laidMet.tail hL2))
  clear hA0 hval0
  refine (fnExactSameRunes_law a0 len0 cap0 z0 a1 len1 cap1 z1 W w0 w1 t_marks t_cap t_oth).mono fun e W' ⟨he, bel⟩ => ?_
  subst he
  exact ⟨_, rfl, _, _, _, [], _, q, hW', trodAll_mk1 (shut_bool Tryd.underlying4 _), (trodAll_cons_mk (Below.trod laidOut_fnExactSameRunes (by kernel_rfl) (of_decide_eq_true (by kernel_rfl)) k0 bel lt0) (trodAll_cons_mk (Below.trod laidOut_fnExactSameRunes (by kernel_rfl) (of_decide_eq_true (by kernel_rfl)) k1 bel lt1) trodAll_mk0)), bel.trodVars laidOut_fnExactSameRunes (by kernel_rfl) hV, bel.frame _, fun h => by cases h⟩

theorem fnExactSameRunes_door (os : Os) (args : Array Value) : laidMetH Tryd.prog Rows.fnExactSameRunesRow.laid ((World.doorLaid Tryd.prog 70 os).forCall (fun _ _ => 0) ⟨#[], args, []⟩).memory :=
  laidMetH_of_parts3 (fuel := 8) (laidMet_of_run' 8 (by kernel_rfl) (by kernel_rfl)) (by kernel_rfl) (by kernel_rfl)

set_option maxRecDepth 100000 in
theorem fnExactSameRunes_lifted (os : Os) (started : os.Started) (H : Type) (enc : TypeId × Value → H) :
    ReturnsInHanded {} Tryd.checked os 4 .any (fun w args => (Rows.fnExactSameRunesSpec.pre enc Tryd.prog Tryd.f4 [] false w args ∧ laidMetH Tryd.prog Rows.fnExactSameRunesRow.laid w) ∧ sizedMet enc Tryd.prog Tryd.f4 (OpenSpec.ofChange Rows.fnExactSameRunesSpec) false w args)
      (Rows.fnExactSameRunesSpec.post enc Tryd.prog Tryd.f4 false true false false) := by
  refine returnsInHanded_of_change_and (C := Tryd.checked) (X := fun w _ => laidMetH Tryd.prog Rows.fnExactSameRunesRow.laid w) (fun _ _ _ hh h => h.of_heap hh) own_fnExactSameRunes started (by kernel_rfl) Tryd.func4
    (ChangeSpec.witness_shaped (enc := enc) (C := Tryd.checked) (os := os) (X := fun w _ => laidMetH Tryd.prog Rows.fnExactSameRunesRow.laid w) false (World.doorLaid Tryd.prog 70 os) #[.slice none 0 0, .slice none 0 0] 8 rfl (World.shaped_of_RefB (by kernel_rfl) (by kernel_rfl)) (by kernel_rfl) (by kernel_rfl) (by kernel_rfl) (fnExactSameRunes_door os _)) ?_
  intro W base args ds gs before hval0 hW _ _ hL _
  exact fnExactSameRunes_contract H enc W base args ds gs before hval0 hW hL

theorem fnExactSameRunes_said : Rows.FnExactSameRunesSaid :=
  OpenClaim.holds_of_wide 4 Tryd.f4 rfl rfl rfl rfl rfl rfl rfl ⟨rfl, rfl, rfl, rfl, rfl⟩ rfl rfl rfl rfl rfl (by kernel_rfl) Tryd.func4 (by kernel_rfl)
    (of_decide_eq_true (by kernel_rfl)) (by unfold Func.isWrapper; first | (rw [if_pos (by decide +kernel)]; kernel_rfl) | (rw [if_neg (by decide +kernel)]; exact ⟨rfl, rfl⟩))
    (fun os started H enc _ => fnExactSameRunes_lifted os started H enc)

theorem fnExactSameRunes_plain (f : FuncId) (fn : Func) (hf : Tryd.pinned.checked.prog.funcNamed "loop.example/g00158/laws.FnExactSameRunes" = some f) (hfn : Tryd.pinned.checked.prog.funcs[f]? = some fn) :
    false = Tryd.pinned.checked.prog.looks [] ∧ ∀ (j : Nat) t, fn.params[j]? = some t → Tryd.pinned.checked.prog.wantsStandIn t = false := by
  obtain rfl : f = 4 := Option.some.inj ((show Tryd.prog.funcNamed "loop.example/g00158/laws.FnExactSameRunes" = some 4 by kernel_rfl).symm.trans hf) |>.symm
  obtain rfl : fn = Tryd.f4 := (Option.some.inj (Tryd.func4.symm.trans hfn)).symm
  refine ⟨by kernel_rfl, fun j t ht => ?_⟩
  rw [Tryd.params4] at ht
  obtain rfl : t = 22 := by simpa using Array.mem_of_getElem? ht
  exact (show Tryd.prog.wantsStandIn 22 = false by kernel_rfl)

theorem fnExactSameRunes_card : Rows.FnExactSameRunesCardSaid :=
  Claim7.holds_tied_plain_at .later [] _ _ _ _ fnExactSameRunes_said (fun _ h => by cases h) (by kernel_rfl) (fun _ h => by cases h) fnExactSameRunes_row_tie rfl ⟨rfl, rfl⟩ (by kernel_rfl) rfl fnExactSameRunes_plain (by kernel_rfl)
#print axioms fnExactSameRunes_card
end Go.Proofs.YtlhpkjhinikmmaeDoor
