/- Proved: for all drawn bytes code, of whatever length, what the law FnNormal asks holds (taken apart twice is once, put together and taken apart is the same, marks that are sorted stay), so it returns true and leaves the input as it was; the tables are as the program's own text lays them (the tied card). -/
import Derived.Test.YtlhpkjhinikmmaaDoorISortM
import Derived.Test.YtlhpkjhinikmmaaDoorDrawN
import Derived.Test.YtlhpkjhinikmmaaDoorISame
import Derived.Test.YtlhpkjhinikmmaaDoorSNorm
import Derived.Test.YtlhpkjhinikmmaaDoorNorm3
import Derived.Test.YtlhpkjhinikmmaaDoorSameI
import Derived.Test.YtlhpkjhinikmmaaDoorCameOf
import Derived.Test.YtlhpkjhinikmmaaDoorCards
import Derived.Test.YtlhpkjhinikmmaaDoorTie
import Derived.WalkKit
import Derived.ProofKit
import Derived.OpenShut
import Derived.LaidMore
import Derived.Stop.Joined
import Derived.ChangeOld
namespace Go.Proofs.YtlhpkjhinikmmaaDoor
open Go.ChangeShapes Go.WideShapes Go.ChangeAt Go.WideMaps Go.WideElems Go.RowKit

theorem normal_facts {zs : List Int} (h : okD zs = true) : ansD zs = nD zs ∧ ansC zs = nC zs ∧ okD (nD zs) = true ∧ ansD (nD zs) = nD zs ∧ nD (nD zs) = nD zs ∧ okR (nD zs) = true ∧ sortA (nD zs) = nD zs ∧
    okD (nC zs) = true ∧ ansD (nC zs) = nD zs ∧ ansC (nC zs) = nC zs ∧ nD (nC zs) = nD zs ∧ (nC zs).length ≤ (nD zs).length ∧ (nD zs).length ≤ 200 := by
  have hr := okD_okR h
  have hg := (okR_true hr).2
  have hl : (nD zs).length ≤ 200 := by
    rw [nD_len]
    unfold okD at h
    simp at h
    exact h.2
  have hgd : ∀ x ∈ nD zs, goodB x = true := fun x hx => apD_good hg x (mem_sortM.1 hx)
  have hc := nD_nC hg
  have hcl : (nC zs).length ≤ (nD zs).length := (compS_len (nD zs) (nD zs).length).1
  have h1 : okR (nD zs) = true := decide_eq_true ⟨hl, hgd⟩
  have h2 : okR (nC zs) = true := decide_eq_true ⟨by omega, hc.2⟩
  have h3 : okD (nD zs) = true := by
    refine okD_yes h1 ?_
    rw [nD_nD]; omega
  have h4 : okD (nC zs) = true := by
    refine okD_yes h2 ?_
    rw [hc.1]; omega
  refine ⟨by unfold ansD; rw [if_pos h], by unfold ansC; rw [if_pos h], h3, by unfold ansD; rw [if_pos h3, nD_nD], nD_nD zs, h1, by unfold sortA; rw [if_pos h1]; exact sortM_again _, h4, by unfold ansD; rw [if_pos h4, hc.1], by unfold ansC; rw [if_pos h4, nC_nC hg], hc.1, hcl, hl⟩

set_option linter.unusedVariables false in
set_option maxRecDepth 100000 in
set_option maxHeartbeats 4000000 in
theorem fnNormal_law (a0 : Option Addr) (len0 cap0 : Nat) (z0 : List Int) (w : World) (w0 : IsRow .u8 w a0 len0 cap0 z0) (t_marks : Held w 2 marksF) (t_cap : Held w 0 capF) (t_oth : Held w 1 othF) :
    Calls Tryd.prog 3 #[.slice a0 len0 cap0] w fun e w' => e = .returned (.bool true) ∧ Below w.heap.size w w' := by
  have hmx : len0 ≤ 9223372036854775807 := by
    rcases w0 with ⟨_, rfl, _, _⟩ | ⟨_, _, h1, h2, _⟩
    · omega
    · unfold maxLen at h2; omega
  by_cases h1 : 1048576 < len0
  · go_enter Tryd.func3, Tryd.ntmps3
    go_wp2
    go_ret
    exact ⟨rfl, Below.refl _ _⟩
  have D := drawNormal_any w a0 len0 cap0 (by omega) (came_of w0)
  have HH : Hid (∀ u, Below w.heap.size w u → Held u 2 marksF ∧ Held u 0 capF ∧ Held u 1 othF) := fun u hu => ⟨t_marks.below hu t_marks.lt, t_cap.below hu t_cap.lt, t_oth.below hu t_oth.lt⟩
  clear w0 t_marks t_cap t_oth
  go_enter Tryd.func3, Tryd.ntmps3
  go_wp2_with fail
  refine D.mono ?_
  rintro e w1 ⟨v1, zs, rfl, i1, hzl, b1⟩
  clear D
  have ND := fun (u : World) (hb : Below w.heap.size w u) (B : Nat) (v : Value) (l : List Int) (hl : l.length ≤ 1048576) (h : Ints u B v l) => implD_any hl h (HH.out _ hb).1 (HH.out _ hb).2.1 (HH.out _ hb).2.2
  have NC := fun (u : World) (hb : Below w.heap.size w u) (B : Nat) (v : Value) (l : List Int) (hl : l.length ≤ 1048576) (h : Ints u B v l) => implC_any hl h (HH.out _ hb).1 (HH.out _ hb).2.1 (HH.out _ hb).2.2
  have A := ND _ b1 _ _ zs (by omega) i1
  cases hok : okD zs
  · have hA : ansD zs = [] := by unfold ansD; rw [hok, if_neg (by simp)]
    have SP := fun (u : World) (B : Nat) (h : Ints u B v1 zs) => specD_any (by omega) h
    rw [hok, hA] at A SP
    clear ND NC hok hA
    go_wp2_with fail
    refine A.mono ?_
    rintro e w2 ⟨v2, rfl, i2, b2⟩
    have c2 := b1.trans (b2.mono b1.size)
    go_wp2_with fail
    refine (SP _ _ (i1.below b2)).mono ?_
    rintro e w3 ⟨v3, rfl, i3, b3⟩
    have c3 := c2.trans (b3.mono c2.size)
    clear A SP
    go_wp2_with fail
    refine (same_any (i2.below b3) i3).mono ?_
    rintro e w4 ⟨rfl, n4, rfl⟩
    rcases i2.form with ⟨rfl, _⟩ | ⟨g, cap, rfl, _, _⟩
    · go_wp2
      go_ret
      exact ⟨rfl, below_drewN c3 n4⟩
    · simp only [List.length_nil]
      go_wp2
      go_ret
      exact ⟨rfl, below_drewN c3 n4⟩
  · obtain ⟨f1, f2, f3, f4, f5, f6, f7, f8, f9, f10, f11, f12, f13⟩ := normal_facts hok
    have SP := fun (u : World) (B : Nat) (h : Ints u B v1 zs) => specD_any (by omega) h
    have NC1 := fun (u : World) (hb : Below w.heap.size w u) (B : Nat) (h : Ints u B v1 zs) => NC u hb B v1 zs (by omega) h
    have SR := fun (u : World) (hb : Below w.heap.size w u) (B B' : Nat) (v' : Value) (h : Ints u B v1 zs) (h' : Ints u B' v' (nC zs)) => implSame_any (by omega) (by omega) h h' (HH.out _ hb).1 (HH.out _ hb).2.1 (HH.out _ hb).2.2 hok f8
    have IS := fun (u : World) (hb : Below w.heap.size w u) (B : Nat) (v : Value) (h : Ints u B v (nD zs)) => implIs_any (by omega) h (HH.out _ hb).1 (HH.out _ hb).2.1 (HH.out _ hb).2.2 f3
    have SM := fun (u : World) (hb : Below w.heap.size w u) (B : Nat) (v : Value) (h : Ints u B v (nD zs)) => implSort_any (by omega) h (HH.out _ hb).1
    have ND2 := fun (u : World) (hb : Below w.heap.size w u) (B : Nat) (v : Value) (h : Ints u B v (nD zs)) => ND u hb B v (nD zs) (by omega) h
    have ND3 := fun (u : World) (hb : Below w.heap.size w u) (B : Nat) (v : Value) (h : Ints u B v (nC zs)) => ND u hb B v (nC zs) (by omega) h
    have NC3 := fun (u : World) (hb : Below w.heap.size w u) (B : Nat) (v : Value) (h : Ints u B v (nC zs)) => NC u hb B v (nC zs) (by omega) h
    rw [hok, f1] at A SP
    rw [hok, f2] at NC1
    rw [f3, f4] at ND2
    rw [f8, f9] at ND3
    rw [f8, f10] at NC3
    rw [show decide (nD (nD zs) = nD zs) = true from decide_eq_true f5] at IS
    rw [show decide (nD zs = nD (nC zs)) = true from decide_eq_true f11.symm] at SR
    rw [f6, f7] at SM
    clear ND NC hok f1 f2 f3 f4 f5 f6 f7 f8 f9 f10 f11
    generalize nD zs = ds at *
    generalize nC zs = cs at *
    go_wp2_with fail
    refine A.mono ?_
    rintro e w2 ⟨v2, rfl, i2, b2⟩
    have c2 := b1.trans (b2.mono b1.size)
    go_wp2_with fail
    refine (SP _ _ (i1.below b2)).mono ?_
    rintro e w3 ⟨v3, rfl, i3, b3⟩
    have c3 := c2.trans (b3.mono c2.size)
    clear A SP
    go_wp2_with fail
    refine (same_any (i2.below b3) i3).mono ?_
    rintro e w4 ⟨rfl, n4, rfl⟩
    have c4 := below_drewN c3 n4
    have d4 := (i2.below b3).drewN n4
    have l4 := ((i1.below b2).below b3).drewN n4
    clear i1 i2 i3
    go_wp2_with fail
    refine (ND2 _ c4 _ _ d4).mono ?_
    rintro e w5 ⟨ve, rfl, e5, b5⟩
    have c5 := c4.trans (b5.mono c4.size)
    have d5 := d4.below b5
    have l5 := l4.below b5
    clear ND2 d4 l4
    go_wp2_with fail
    refine (NC1 _ c5 _ l5).mono ?_
    rintro e w6 ⟨vc, rfl, q6, b6⟩
    have c6 := c5.trans (b6.mono c5.size)
    have d6 := d5.below b6
    have l6 := l5.below b6
    have e6 := e5.below b6
    clear NC1 d5 l5 e5
    go_wp2_with fail
    refine (ND3 _ c6 _ _ q6).mono ?_
    rintro e w7 ⟨vf, rfl, f7, b7⟩
    have c7 := c6.trans (b7.mono c6.size)
    have d7 := d6.below b7
    have l7 := l6.below b7
    have e7 := e6.below b7
    have q7 := q6.below b7
    clear ND3 d6 l6 e6 q6
    go_wp2_with fail
    refine (NC3 _ c7 _ _ q7).mono ?_
    rintro e w8 ⟨vg, rfl, g8, b8⟩
    have c8 := c7.trans (b8.mono c7.size)
    have d8 := d7.below b8
    have l8 := l7.below b8
    have e8 := e7.below b8
    have q8 := q7.below b8
    have f8 := f7.below b8
    clear NC3 d7 l7 e7 q7 f7
    go_wp2_with fail
    refine (IS _ c8 _ _ d8).mono ?_
    rintro e w9 ⟨rfl, b9⟩
    have c9 := c8.trans (b9.mono c8.size)
    have d9 := d8.below b9
    have l9 := l8.below b9
    have e9 := e8.below b9
    have q9 := q8.below b9
    have f9 := f8.below b9
    have g9 := g8.below b9
    clear IS d8 l8 e8 q8 f8 g8
    go_wp2_with fail
    refine (SM _ c9 _ _ d9).mono ?_
    rintro e wA ⟨vs, rfl, sA, bA⟩
    have cA := c9.trans (bA.mono c9.size)
    have dA := d9.below bA
    have lA := l9.below bA
    have eA := e9.below bA
    have qA := q9.below bA
    have fA := f9.below bA
    have gA := g9.below bA
    clear SM d9 l9 e9 q9 f9 g9
    go_wp2_with fail
    refine (SR _ cA _ _ _ lA qA).mono ?_
    rintro e wB ⟨rfl, bB⟩
    have cB := cA.trans (bB.mono cA.size)
    have dB := dA.below bB
    have eB := eA.below bB
    have qB := qA.below bB
    have fB := fA.below bB
    have gB := gA.below bB
    have sB := sA.below bB
    clear SR dA lA eA qA fA gA sA
    go_wp2_with fail
    refine (same_any eB dB).mono ?_
    rintro e wC ⟨rfl, nC, rfl⟩
    go_wp2_with fail
    refine (same_any (fB.drewN _) (dB.drewN _)).mono ?_
    rintro e wD ⟨rfl, nD, rfl⟩
    go_wp2_with fail
    refine (same_any (gB.drewN _) (qB.drewN _)).mono ?_
    rintro e wE ⟨rfl, nE, rfl⟩
    go_wp2_with fail
    refine (same_any (sB.drewN _) (dB.drewN _)).mono ?_
    rintro e wF ⟨rfl, nF, rfl⟩
    have cF : ∀ m, Below w.heap.size w (wB.drewN m) := fun m => below_drewN cB m
    have hle : (cs.length : Int) ≤ (ds.length : Int) := by omega
    rcases qB.form with ⟨rfl, hq⟩ | ⟨gq, capq, rfl, _, _⟩
    · rcases dB.form with ⟨rfl, hd⟩ | ⟨gd, capd, rfl, _, _⟩
      · go_wp2
        go_ret
        exact ⟨rfl, cF _⟩
      · have hle0 : (0 : Int) ≤ (ds.length : Int) := by omega
        go_wp2
        go_ret
        exact ⟨ret_b (by simp), cF _⟩
    · rcases dB.form with ⟨rfl, hd⟩ | ⟨gd, capd, rfl, _, _⟩
      · have hc0 : cs.length = 0 := by rw [hd] at f12; simpa using f12
        rw [hc0]
        go_wp2
        go_ret
        exact ⟨rfl, cF _⟩
      · go_wp2
        go_ret
        exact ⟨ret_b (by simp), cF _⟩

theorem own_fnNormal : ownKnob Tryd.prog.godebug = none := by kernel_rfl
theorem laidOut_fnNormal : laidOutB Tryd.prog = true := by kernel_rfl

set_option linter.unusedVariables false in
set_option maxRecDepth 100000 in
theorem fnNormal_contract (H : Type) (enc : TypeId × Value → H) (W : World) (base : Nat) (args : Array Value) (ds gs : List (DataW H)) (before : List MemPlace)
    (hval0 : ∀ (j : Nat) t v, Tryd.f3.params[j]? = some t → args[j]? = some v → Value.okWide Tryd.prog W .any base t v)
    (hW : DataW.Whole enc Tryd.prog Tryd.f3.params.toList Rows.fnNormalSpec.vars false W args.toList ds gs before) (hL : laidMetH Tryd.prog Rows.fnNormalRow.laid W) :
    Calls Tryd.prog 3 args W fun e W' => ∃ v, e = .returned v ∧ Rows.fnNormalSpec.post enc Tryd.prog Tryd.f3 false true false false W args v W' := by
  have hval : ∀ (j : Nat) t v, Tryd.f3.params[j]? = some t → args[j]? = some v → Value.okWide Tryd.prog W .any base t v := hval0
  have hW' := hW
  obtain ⟨p, q, hA0, hV, rfl, hfz, hnd⟩ := hW
  have hA : DataW.TrodAll enc Tryd.prog W 0 (fun _ => true) true Tryd.f3.params.toList args.toList ds p := hA0
  rw [Tryd.params3] at hA hval
  obtain ⟨v0, vs0, d0, ds0, p0, q0, hargs, rfl, rfl, h0, r0⟩ := trodAll_cons hA
  obtain ⟨rfl, rfl, rfl⟩ := trodAll_nil r0
  obtain rfl : args = #[v0] := by cases args; simp_all
  obtain ⟨g1, g2, g3, rfl⟩ : ∃ g1 g2 g3, gs = [g1, g2, g3] := by
    have hg := trodVars_len hV
    match gs, hg with
    | [x1, x2, x3], _ => exact ⟨x1, x2, x3, rfl⟩
  obtain ⟨a0, len0, cap0, rfl⟩ := okWide_slice Tryd.underlying22 (hval 0 22 v0 rfl rfl)
  have k0 := h0
  have lt0 : ∀ x ∈ p0, x.block < W.heap.size := by obtain ⟨m, hm⟩ := k0; exact DataW.trod_lt m _ _ _ hm
  obtain ⟨z0, w0⟩ : ∃ zs, IsRow .u8 W a0 len0 cap0 zs := by
    obtain ⟨fuel, hf⟩ := h0
    rcases open_ints Tryd.underlying22 Tryd.underlying5 (by kernel_rfl) hf with ⟨hcs, _⟩ | ⟨x, l, c, zs, hcs, _, hl, hm, hz, _, hcell, hwz⟩
    · simp [Value.cells] at hcs
      obtain ⟨rfl, rfl, rfl⟩ := hcs
      exact ⟨[], .inl ⟨rfl, rfl, rfl, rfl⟩⟩
    · simp [Value.cells] at hcs
      obtain ⟨rfl, rfl, rfl⟩ := hcs
      exact ⟨zs, .inr ⟨_, rfl, hl, hm, by simpa using hz, hcell, hwz⟩⟩
  have hL2 : laidMet Tryd.prog Rows.fnNormalRow.laid W := hL
  have t_marks := marks_held hL2
  have t_cap := cap_held (laidMet.tail hL2)
  have t_oth := oth_held (laidMet.tail (laidMet.tail hL2))
  clear hA0 hval0
  refine (fnNormal_law a0 len0 cap0 z0 W w0 t_marks t_cap t_oth).mono fun e W' ⟨he, bel⟩ => ?_
  subst he
  exact ⟨_, rfl, _, _, _, [], _, q, hW', trodAll_mk1 (shut_bool Tryd.underlying4 _), (trodAll_cons_mk (Below.trod laidOut_fnNormal (by kernel_rfl) (of_decide_eq_true (by kernel_rfl)) k0 bel lt0) trodAll_mk0), bel.trodVars laidOut_fnNormal (by kernel_rfl) hV, bel.frame _, fun h => by cases h⟩

theorem fnNormal_door (os : Os) (args : Array Value) : laidMetH Tryd.prog Rows.fnNormalRow.laid ((World.doorLaid Tryd.prog 70 os).forCall (fun _ _ => 0) ⟨#[], args, []⟩).memory :=
  laidMetH_of_parts3 (fuel := 8) (laidMet_of_run' 8 (by kernel_rfl) (by kernel_rfl)) (by kernel_rfl) (by kernel_rfl)

set_option maxRecDepth 100000 in
theorem fnNormal_lifted (os : Os) (started : os.Started) (H : Type) (enc : TypeId × Value → H) :
    ReturnsInHanded {} Tryd.checked os 3 .any (fun w args => (Rows.fnNormalSpec.pre enc Tryd.prog Tryd.f3 [] false w args ∧ laidMetH Tryd.prog Rows.fnNormalRow.laid w) ∧ sizedMet enc Tryd.prog Tryd.f3 (OpenSpec.ofChange Rows.fnNormalSpec) false w args)
      (Rows.fnNormalSpec.post enc Tryd.prog Tryd.f3 false true false false) := by
  refine returnsInHanded_of_change_and (C := Tryd.checked) (X := fun w _ => laidMetH Tryd.prog Rows.fnNormalRow.laid w) (fun _ _ _ hh h => h.of_heap hh) own_fnNormal started (by kernel_rfl) Tryd.func3
    (ChangeSpec.witness_shaped (enc := enc) (C := Tryd.checked) (os := os) (X := fun w _ => laidMetH Tryd.prog Rows.fnNormalRow.laid w) false (World.doorLaid Tryd.prog 70 os) #[.slice none 0 0] 8 rfl (World.shaped_of_RefB (by kernel_rfl) (by kernel_rfl)) (by kernel_rfl) (by kernel_rfl) (by kernel_rfl) (fnNormal_door os _)) ?_
  intro W base args ds gs before hval0 hW _ _ hL _
  exact fnNormal_contract H enc W base args ds gs before hval0 hW hL

theorem fnNormal_said : Rows.FnNormalSaid :=
  OpenClaim.holds_of_wide 3 Tryd.f3 rfl rfl rfl rfl rfl rfl rfl ⟨rfl, rfl, rfl, rfl, rfl⟩ rfl rfl rfl rfl rfl (by kernel_rfl) Tryd.func3 (by kernel_rfl)
    (of_decide_eq_true (by kernel_rfl)) (by unfold Func.isWrapper; first | (rw [if_pos (by decide +kernel)]; kernel_rfl) | (rw [if_neg (by decide +kernel)]; exact ⟨rfl, rfl⟩))
    (fun os started H enc _ => fnNormal_lifted os started H enc)

theorem fnNormal_plain (f : FuncId) (fn : Func) (hf : Tryd.pinned.checked.prog.funcNamed "loop.example/g00158/laws.FnNormal" = some f) (hfn : Tryd.pinned.checked.prog.funcs[f]? = some fn) :
    false = Tryd.pinned.checked.prog.looks [] ∧ ∀ (j : Nat) t, fn.params[j]? = some t → Tryd.pinned.checked.prog.wantsStandIn t = false := by
  obtain rfl : f = 3 := Option.some.inj ((show Tryd.prog.funcNamed "loop.example/g00158/laws.FnNormal" = some 3 by kernel_rfl).symm.trans hf) |>.symm
  obtain rfl : fn = Tryd.f3 := (Option.some.inj (Tryd.func3.symm.trans hfn)).symm
  refine ⟨by kernel_rfl, fun j t ht => ?_⟩
  rw [Tryd.params3] at ht
  obtain rfl : t = 22 := by simpa using Array.mem_of_getElem? ht
  exact (show Tryd.prog.wantsStandIn 22 = false by kernel_rfl)

theorem fnNormal_card : Rows.FnNormalCardSaid :=
  Claim7.holds_tied_plain_at .later [] _ _ _ _ fnNormal_said (fun _ h => by cases h) (by kernel_rfl) (fun _ h => by cases h) fnNormal_row_tie rfl ⟨rfl, rfl⟩ (by kernel_rfl) rfl fnNormal_plain (by kernel_rfl)
#print axioms fnNormal_card
end Go.Proofs.YtlhpkjhinikmmaaDoor
