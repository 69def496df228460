/- Proved: for every list of elems l, of whatever length and numbers, and whether shifted or not, impl.FourthOf answers as the specification's FourthOf, writes nothing into its argument, and no two lists of its answer share memory, so the law FnExactFourthOf returns true and leaves the input as it was; no condition. -/
import Derived.Test.YtcmanfcgoapjjafIFourth
import Derived.Test.YtcmanfcgoapjjafWFourth
import Derived.Test.YtcmanfcgoapjjafRows
import Derived.WalkKit
import Derived.ProofKit
import Derived.OpenShut
import Derived.LaidMore
namespace Go.Proofs.Ytcmanfcgoapjjaf
open Go.ChangeShapes Go.WideShapes Go.ChangeAt Go.WideMaps Go.WideElems Go.RowKit

theorem implFourth_any {w : World} {B : Nat} {v : Value} {es : List El} (sh : Bool) (hL : Elems w B v es) :
    Calls Try.prog 7 #[v, .bool sh] w fun e w' => ∃ v v', e = .returned (.tuple #[v, v', .bool (okF es)]) ∧ Ints w' w.heap.size v (fA sh es) ∧ Elems w' w.heap.size v' (eA sh es) ∧ Below w.heap.size w w' := by
  unfold fA eA
  by_cases h : es.length ≤ 1000
  · rw [show okF es = true from decide_eq_true h, if_pos rfl, if_pos rfl]
    exact implFourth_ok sh h hL
  · rw [show okF es = false from decide_eq_false h, if_neg (by simp), if_neg (by simp)]
    obtain ⟨a, c, rfl⟩ := hL.slice
    exact implFourth_long w a _ c sh (by omega)

theorem own_fnExactFourthOf : ownKnob Try.prog.godebug = none := by kernel_rfl
theorem laidOut_fnExactFourthOf : laidOutB Try.prog = true := by kernel_rfl

set_option linter.unusedVariables false in
set_option maxRecDepth 100000 in
theorem fnExactFourthOf_lifted (os : Os) (started : os.Started) (H : Type) (enc : TypeId × Value → H) :
    ReturnsInHanded {} Try.checked os 3 .any (Rows.fnExactFourthOfSpec.pre6 enc Try.prog Try.f3 Rows.fnExactFourthOfRow.domain false) (Rows.fnExactFourthOfSpec.post enc Try.prog Try.f3 false true false false) := by
  refine returnsInHanded_of_change (C := Try.checked) own_fnExactFourthOf started (by kernel_rfl) Try.func3
    (ChangeSpec.witness6 (enc := enc) (C := Try.checked) false ⟨#[], #[.slice none 0 0, .bool false], []⟩ 8 (by kernel_rfl) (by kernel_rfl) (by kernel_rfl) (by kernel_rfl)) ?_
  intro W base args ds gs before hval0 hW hcnd _
  have hval : ∀ (j : Nat) t v, Try.f3.params[j]? = some t → args[j]? = some v → Value.okWide Try.prog W .any base t v := hval0
  have hW' := hW
  obtain ⟨p, q, hA0, hV, rfl, hfz, hnd⟩ := hW
  have hA : DataW.TrodAll enc Try.prog W 0 (fun _ => true) true Try.f3.params.toList args.toList ds p := hA0
  rw [Try.params3] at hA hval
  obtain ⟨v0, vs0, d0, ds0, p0, q0, hargs, rfl, rfl, h0, r0⟩ := trodAll_cons hA
  obtain ⟨v1, vs1, d1, ds1, p1, q1, rfl, rfl, rfl, h1, r1⟩ := trodAll_cons r0
  obtain ⟨rfl, rfl, rfl⟩ := trodAll_nil r1
  obtain rfl : args = #[v0, v1] := by cases args; simp_all
  obtain ⟨rfl, rfl⟩ := trodVars_none hV
  obtain ⟨a0, len0, cap0, rfl⟩ := okWide_slice Try.underlying22 (hval 0 22 v0 rfl rfl)
  obtain ⟨sh, rfl, rfl, rfl⟩ := open_bool Try.underlying4 (hval 1 4 v1 rfl rfl) h1
  have k0 := h0
  have lt0 : ∀ x ∈ p0, x.block < W.heap.size := by obtain ⟨m, hm⟩ := k0; exact DataW.trod_lt m _ _ _ hm
  obtain ⟨es0, w0⟩ : ∃ es, ArgEls W a0 len0 cap0 es := by
    obtain ⟨fuel, hf⟩ := h0
    exact open_elems hf
  clear hA0 hval0
  refine (fourthOf_walk W a0 len0 cap0 es0 sh w0 (fun u B v _ h _ => implFourth_any sh h)).mono fun e W' ⟨he, bel⟩ => ?_
  subst he
  exact ⟨_, rfl, _, _, _, [], _, [], hW', trodAll_mk1 (shut_bool Try.underlying4 _), (trodAll_cons_mk (Below.trod laidOut_fnExactFourthOf (by kernel_rfl) (of_decide_eq_true (by kernel_rfl)) k0 bel lt0) (trodAll_cons_mk (shut_bool Try.underlying4 _) trodAll_mk0)), rfl, bel.frame _, fun h => by cases h⟩

theorem fnExactFourthOf_holds : Rows.FnExactFourthOfSaid :=
  OpenClaim.holds_of_wide 3 Try.f3 rfl rfl rfl rfl rfl rfl rfl ⟨rfl, rfl, rfl, rfl, rfl⟩ rfl rfl rfl rfl rfl (by kernel_rfl) Try.func3 (by kernel_rfl)
    (of_decide_eq_true (by kernel_rfl)) (by unfold Func.isWrapper; first | (rw [if_pos (by decide +kernel)]; kernel_rfl) | (rw [if_neg (by decide +kernel)]; exact ⟨rfl, rfl⟩))
    (fun os started H enc _ => fnExactFourthOf_lifted os started H enc)
#print axioms fnExactFourthOf_holds
end Go.Proofs.Ytcmanfcgoapjjaf
