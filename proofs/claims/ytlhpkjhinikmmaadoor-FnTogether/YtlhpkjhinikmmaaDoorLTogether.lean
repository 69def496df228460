/- Proved: for all drawn bytes code, of whatever length, what the law FnTogether asks holds (what is put together of two is taken apart into them), so it returns true and leaves the input as it was; the tables are as the program's own text lays them (the tied card). -/
import Derived.Test.YtlhpkjhinikmmaaDoorDrawT
import Derived.Test.YtlhpkjhinikmmaaDoorINorm2
import Derived.Test.YtlhpkjhinikmmaaDoorSameI
import Derived.Test.YtlhpkjhinikmmaaDoorCameOf
import Derived.Test.YtlhpkjhinikmmaaDoorCards
import Derived.Test.YtlhpkjhinikmmaaDoorTie
import Derived.WalkKit
import Derived.ProofKit
import Derived.OpenShut
import Derived.LaidMore
import Derived.Stop.Joined
import Derived.ChangeOld
namespace Go.Proofs.YtlhpkjhinikmmaaDoor
open Go.ChangeShapes Go.WideShapes Go.ChangeAt Go.WideMaps Go.WideElems Go.RowKit

theorem tog_facts {a b x : Int} (h : tog a b = some x) : okD [x] = true ∧ okD [a, b] = true ∧ ansD [x] = ansD [a, b] := by
  obtain ⟨h1, h2⟩ := tog_apart h
  have ha : goodB a = true := by
    cases c : goodB a with
    | true => rfl
    | false => rw [tog_good (.inl c)] at h; cases h
  have hb : goodB b = true := by
    cases c : goodB b with
    | true => rfl
    | false => rw [tog_good (.inr c)] at h; cases h
  have lx := all2_len x
  have la := all2_len a
  have lb := all2_len b
  have k1 : okD [x] = true := by
    unfold okD okR apD
    simp [h2]; omega
  have k2 : okD [a, b] = true := by
    unfold okD okR apD
    simp [ha, hb]; omega
  refine ⟨k1, k2, ?_⟩
  unfold ansD
  rw [k1, k2, if_pos rfl]
  show sortM ([x].flatMap all2) = sortM ([a, b].flatMap all2)
  simpa using h1

set_option linter.unusedVariables false in
set_option maxRecDepth 100000 in
set_option maxHeartbeats 4000000 in
theorem fnTogether_law (a0 : Option Addr) (len0 cap0 : Nat) (z0 : List Int) (w : World) (w0 : IsRow .u8 w a0 len0 cap0 z0) (t_marks : Held w 2 marksF) (t_cap : Held w 0 capF) (t_oth : Held w 1 othF) :
    Calls Tryd.prog 4 #[.slice a0 len0 cap0] w fun e w' => e = .returned (.bool true) ∧ Below w.heap.size w w' := by
  have hmx : len0 ≤ 9223372036854775807 := by
    rcases w0 with ⟨_, rfl, _, _⟩ | ⟨_, _, h1, h2, _⟩
    · omega
    · unfold maxLen at h2; omega
  by_cases h1 : 1048576 < len0
  · go_enter Tryd.func4, Tryd.ntmps4
    go_wp2
    go_ret
    exact ⟨rfl, Below.refl _ _⟩
  have D := drawTog_any w a0 len0 cap0 (by omega) (came_of w0)
  have HH : Hid (∀ u, Below w.heap.size w u → Held u 2 marksF ∧ Held u 0 capF ∧ Held u 1 othF) := fun u hu => ⟨t_marks.below hu t_marks.lt, t_cap.below hu t_cap.lt, t_oth.below hu t_oth.lt⟩
  clear w0 t_marks t_cap t_oth
  go_enter Tryd.func4, Tryd.ntmps4
  go_wp2_with fail
  refine D.mono ?_
  rintro e w1 ⟨a, b, rfl, b1⟩
  clear D
  have A := implTogether_any a b w1 (HH.out _ b1).2.1 (HH.out _ b1).2.2
  have SP := fun u => specTogether_any a b u
  have HF : Hid (∀ x, tog a b = some x → okD [x] = true ∧ okD [a, b] = true ∧ ansD [x] = ansD [a, b]) := fun x h => tog_facts h
  cases ho : tog a b with
  | none =>
    rw [ho] at A SP
    simp only [togRes, Option.getD, Option.isSome] at A SP
    clear HF ho
    go_wp2_with fail
    refine A.mono ?_
    rintro e w2 ⟨rfl, b2⟩
    go_wp2_with fail
    refine (SP _).mono ?_
    rintro e w3 ⟨rfl, b3⟩
    have c2 := b1.trans (b2.mono b1.size)
    clear A SP
    go_wp2
    go_ret
    exact ⟨rfl, c2.trans (b3.mono c2.size)⟩
  | some x =>
    rw [ho] at A SP
    simp only [togRes, Option.getD, Option.isSome] at A SP
    obtain ⟨f1, f2, f3⟩ := HF.out x ho
    clear HF ho
    go_wp2_with fail
    refine A.mono ?_
    rintro e w2 ⟨rfl, b2⟩
    go_wp2_with fail
    refine (SP _).mono ?_
    rintro e w3 ⟨rfl, b3⟩
    have c2 := b1.trans (b2.mono b1.size)
    have c3 := c2.trans (b3.mono c2.size)
    have i3 := lit_ints w3 [x] 1 rfl (by unfold maxLen; omega) #[.int .i64 x] rfl
    have c4 := c3.alloc c3.size (.cells #[.int .i64 x] 3)
    have N1 := implD_any (by simp) i3 (HH.out _ c4).1 (HH.out _ c4).2.1 (HH.out _ c4).2.2
    rw [f1] at N1
    clear A SP
    go_wp2_with fail
    refine N1.mono ?_
    rintro e w5 ⟨v5, rfl, i5, b5⟩
    have c5 := c4.trans (b5.mono c4.size)
    have i6 := lit_ints w5 [a, b] 2 rfl (by unfold maxLen; omega) #[.int .i64 a, .int .i64 b] rfl
    have c6 := c5.alloc c5.size (.cells #[.int .i64 a, .int .i64 b] 3)
    have N2 := implD_any (by simp) i6 (HH.out _ c6).1 (HH.out _ c6).2.1 (HH.out _ c6).2.2
    rw [f2, ← f3] at N2
    clear N1 i3
    go_wp2_with fail
    refine N2.mono ?_
    rintro e w7 ⟨v7, rfl, i7, b7⟩
    have c7 := c6.trans (b7.mono c6.size)
    have i57 : Ints w7 _ v5 (ansD [x]) := (i5.below ((Below.refl _ _).alloc (Nat.le_refl _) _)).below b7
    clear N2 i6 i5
    go_wp2_with fail
    refine (same_any i57 i7).mono ?_
    rintro e w8 ⟨rfl, n8, rfl⟩
    go_wp2
    go_ret
    exact ⟨rfl, below_drewN c7 n8⟩

theorem own_fnTogether : ownKnob Tryd.prog.godebug = none := by kernel_rfl
theorem laidOut_fnTogether : laidOutB Tryd.prog = true := by kernel_rfl

set_option linter.unusedVariables false in
set_option maxRecDepth 100000 in
theorem fnTogether_contract (H : Type) (enc : TypeId × Value → H) (W : World) (base : Nat) (args : Array Value) (ds gs : List (DataW H)) (before : List MemPlace)
    (hval0 : ∀ (j : Nat) t v, Tryd.f4.params[j]? = some t → args[j]? = some v → Value.okWide Tryd.prog W .any base t v)
    (hW : DataW.Whole enc Tryd.prog Tryd.f4.params.toList Rows.fnTogetherSpec.vars false W args.toList ds gs before) (hL : laidMetH Tryd.prog Rows.fnTogetherRow.laid W) :
    Calls Tryd.prog 4 args W fun e W' => ∃ v, e = .returned v ∧ Rows.fnTogetherSpec.post enc Tryd.prog Tryd.f4 false true false false W args v W' := by
  have hval : ∀ (j : Nat) t v, Tryd.f4.params[j]? = some t → args[j]? = some v → Value.okWide Tryd.prog W .any base t v := hval0
  have hW' := hW
  obtain ⟨p, q, hA0, hV, rfl, hfz, hnd⟩ := hW
  have hA : DataW.TrodAll enc Tryd.prog W 0 (fun _ => true) true Tryd.f4.params.toList args.toList ds p := hA0
  rw [Tryd.params4] at hA hval
  obtain ⟨v0, vs0, d0, ds0, p0, q0, hargs, rfl, rfl, h0, r0⟩ := trodAll_cons hA
  obtain ⟨rfl, rfl, rfl⟩ := trodAll_nil r0
  obtain rfl : args = #[v0] := by cases args; simp_all
  obtain ⟨g1, g2, g3, rfl⟩ : ∃ g1 g2 g3, gs = [g1, g2, g3] := by
    have hg := trodVars_len hV
    match gs, hg with
    | [x1, x2, x3], _ => exact ⟨x1, x2, x3, rfl⟩
  obtain ⟨a0, len0, cap0, rfl⟩ := okWide_slice Tryd.underlying22 (hval 0 22 v0 rfl rfl)
  have k0 := h0
  have lt0 : ∀ x ∈ p0, x.block < W.heap.size := by obtain ⟨m, hm⟩ := k0; exact DataW.trod_lt m _ _ _ hm
  obtain ⟨z0, w0⟩ : ∃ zs, IsRow .u8 W a0 len0 cap0 zs := by
    obtain ⟨fuel, hf⟩ := h0
    rcases open_ints Tryd.underlying22 Tryd.underlying5 (by kernel_rfl) hf with ⟨hcs, _⟩ | ⟨x, l, c, zs, hcs, _, hl, hm, hz, _, hcell, hwz⟩
    · simp [Value.cells] at hcs
      obtain ⟨rfl, rfl, rfl⟩ := hcs
      exact ⟨[], .inl ⟨rfl, rfl, rfl, rfl⟩⟩
    · simp [Value.cells] at hcs
      obtain ⟨rfl, rfl, rfl⟩ := hcs
      exact ⟨zs, .inr ⟨_, rfl, hl, hm, by simpa using hz, hcell, hwz⟩⟩
  have hL2 : laidMet Tryd.prog Rows.fnTogetherRow.laid W := hL
  have t_marks := marks_held hL2
  have t_cap := cap_held (laidMet.tail hL2)
  have t_oth := oth_held (laidMet.tail (laidMet.tail hL2))
  clear hA0 hval0
  refine (fnTogether_law a0 len0 cap0 z0 W w0 t_marks t_cap t_oth).mono fun e W' ⟨he, bel⟩ => ?_
  subst he
  exact ⟨_, rfl, _, _, _, [], _, q, hW', trodAll_mk1 (shut_bool Tryd.underlying4 _), (trodAll_cons_mk (Below.trod laidOut_fnTogether (by kernel_rfl) (of_decide_eq_true (by kernel_rfl)) k0 bel lt0) trodAll_mk0), bel.trodVars laidOut_fnTogether (by kernel_rfl) hV, bel.frame _, fun h => by cases h⟩

theorem fnTogether_door (os : Os) (args : Array Value) : laidMetH Tryd.prog Rows.fnTogetherRow.laid ((World.doorLaid Tryd.prog 70 os).forCall (fun _ _ => 0) ⟨#[], args, []⟩).memory :=
  laidMetH_of_parts3 (fuel := 8) (laidMet_of_run' 8 (by kernel_rfl) (by kernel_rfl)) (by kernel_rfl) (by kernel_rfl)

set_option maxRecDepth 100000 in
theorem fnTogether_lifted (os : Os) (started : os.Started) (H : Type) (enc : TypeId × Value → H) :
    ReturnsInHanded {} Tryd.checked os 4 .any (fun w args => (Rows.fnTogetherSpec.pre enc Tryd.prog Tryd.f4 [] false w args ∧ laidMetH Tryd.prog Rows.fnTogetherRow.laid w) ∧ sizedMet enc Tryd.prog Tryd.f4 (OpenSpec.ofChange Rows.fnTogetherSpec) false w args)
      (Rows.fnTogetherSpec.post enc Tryd.prog Tryd.f4 false true false false) := by
  refine returnsInHanded_of_change_and (C := Tryd.checked) (X := fun w _ => laidMetH Tryd.prog Rows.fnTogetherRow.laid w) (fun _ _ _ hh h => h.of_heap hh) own_fnTogether started (by kernel_rfl) Tryd.func4
    (ChangeSpec.witness_shaped (enc := enc) (C := Tryd.checked) (os := os) (X := fun w _ => laidMetH Tryd.prog Rows.fnTogetherRow.laid w) false (World.doorLaid Tryd.prog 70 os) #[.slice none 0 0] 8 rfl (World.shaped_of_RefB (by kernel_rfl) (by kernel_rfl)) (by kernel_rfl) (by kernel_rfl) (by kernel_rfl) (fnTogether_door os _)) ?_
  intro W base args ds gs before hval0 hW _ _ hL _
  exact fnTogether_contract H enc W base args ds gs before hval0 hW hL

theorem fnTogether_said : Rows.FnTogetherSaid :=
  OpenClaim.holds_of_wide 4 Tryd.f4 rfl rfl rfl rfl rfl rfl rfl ⟨rfl, rfl, rfl, rfl, rfl⟩ rfl rfl rfl rfl rfl (by kernel_rfl) Tryd.func4 (by kernel_rfl)
    (of_decide_eq_true (by kernel_rfl)) (by unfold Func.isWrapper; first | (rw [if_pos (by decide +kernel)]; kernel_rfl) | (rw [if_neg (by decide +kernel)]; exact ⟨rfl, rfl⟩))
    (fun os started H enc _ => fnTogether_lifted os started H enc)

theorem fnTogether_plain (f : FuncId) (fn : Func) (hf : Tryd.pinned.checked.prog.funcNamed "loop.example/g00158/laws.FnTogether" = some f) (hfn : Tryd.pinned.checked.prog.funcs[f]? = some fn) :
    false = Tryd.pinned.checked.prog.looks [] ∧ ∀ (j : Nat) t, fn.params[j]? = some t → Tryd.pinned.checked.prog.wantsStandIn t = false := by
  obtain rfl : f = 4 := Option.some.inj ((show Tryd.prog.funcNamed "loop.example/g00158/laws.FnTogether" = some 4 by kernel_rfl).symm.trans hf) |>.symm
  obtain rfl : fn = Tryd.f4 := (Option.some.inj (Tryd.func4.symm.trans hfn)).symm
  refine ⟨by kernel_rfl, fun j t ht => ?_⟩
  rw [Tryd.params4] at ht
  obtain rfl : t = 22 := by simpa using Array.mem_of_getElem? ht
  exact (show Tryd.prog.wantsStandIn 22 = false by kernel_rfl)

theorem fnTogether_card : Rows.FnTogetherCardSaid :=
  Claim7.holds_tied_plain_at .later [] _ _ _ _ fnTogether_said (fun _ h => by cases h) (by kernel_rfl) (fun _ h => by cases h) fnTogether_row_tie rfl ⟨rfl, rfl⟩ (by kernel_rfl) rfl fnTogether_plain (by kernel_rfl)
#print axioms fnTogether_card
end Go.Proofs.YtlhpkjhinikmmaaDoor
