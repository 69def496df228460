/- Proved: for every string s, of whatever length, impl.DecodeText answers as the specification's DecodeText and its answer owns its memory, so the law FnExactDecodeText returns true and leaves the input as it was; no condition. -/
import Derived.Test.YtahnbomjnnkclacRead
import Derived.Test.YtahnbomjnnkclacIntS
import Derived.Test.YtahnbomjnnkclacRows
import Derived.WalkKit
import Derived.ProofKit
import Derived.OpenShut
import Derived.ShutString
namespace Go.Proofs.Ytahnbomjnnkclac
open Go.RowKit

set_option maxRecDepth 100000 in
set_option maxHeartbeats 1000000 in
theorem specDecode_any (s : ByteArray) (w : World) (hs : s.size ≤ 200) :
    Calls Try.prog 10 #[.string s] w fun e w' => ∃ v, e = .returned (.tuple #[v, .bool true]) ∧ Ints w' w.heap.size v (Dec.decT s.size s).1 ∧ Below w.heap.size w w' := by
  have D := fun w => l1Decode_any s w (by omega)
  go_enter Try.func10, Try.ntmps10
  go_wp2_with (go_at_call 23; refine (D _).mono ?_; rintro e w' ⟨v, rfl, hI, hb⟩)
  go_ret2
  exact ⟨_, rfl, hI, hb⟩

set_option maxRecDepth 100000 in
set_option maxHeartbeats 1000000 in
theorem implDecode_any (s : ByteArray) (w : World) (hs : s.size ≤ 200) :
    Calls Try.prog 11 #[.string s] w fun e w' => ∃ v, e = .returned (.tuple #[v, .bool true]) ∧ Ints w' w.heap.size v (Dec.decT s.size s).1 ∧ Below w.heap.size w w' := by
  have D := fun w => readText_any s w (by omega)
  go_enter Try.func11, Try.ntmps11
  go_wp2_with (go_at_call 24; refine (D _).mono ?_; rintro e w' ⟨v, rfl, hI, hb⟩)
  go_ret2
  exact ⟨_, rfl, hI, hb⟩

set_option maxRecDepth 100000 in
set_option maxHeartbeats 1000000 in
theorem specDecode_no (s : ByteArray) (w : World) (hs : 200 < s.size) (hm : s.size ≤ 1048576) :
    Calls Try.prog 10 #[.string s] w fun e w' => e = .returned (.tuple #[.slice none 0 0, .bool false]) ∧ w' = w := by
  go_enter Try.func10, Try.ntmps10
  go_wp2
  go_ret2
  exact ⟨rfl, rfl⟩

set_option maxRecDepth 100000 in
set_option maxHeartbeats 1000000 in
theorem implDecode_no (s : ByteArray) (w : World) (hs : 200 < s.size) (hm : s.size ≤ 1048576) :
    Calls Try.prog 11 #[.string s] w fun e w' => e = .returned (.tuple #[.slice none 0 0, .bool false]) ∧ w' = w := by
  go_enter Try.func11, Try.ntmps11
  go_wp2
  go_ret2
  exact ⟨rfl, rfl⟩

set_option maxRecDepth 100000 in
set_option maxHeartbeats 2000000 in
theorem decodeLaw_no (s : ByteArray) (h2 : 200 < s.size) (h1 : s.size ≤ 1048576) (w : World) :
    Calls Try.prog 4 #[.string s] w fun e w' => e = .returned (.bool true) ∧ Below w.heap.size w w' := by
  have A := fun w => specDecode_no s w h2 h1
  have B := fun w => implDecode_no s w h2 h1
  have Q := fun w => eq_none w none none 0 0
  have M := fun w => mark_none w none 0
  have K := fun w => held_none w none 0
  go_enter Try.func4, Try.ntmps4
  go_wp2_with (first
    | (go_at_call 10; refine (A _).mono ?_; rintro e w1 ⟨rfl, rfl⟩)
    | (go_at_call 11; refine (B _).mono ?_; rintro e w2 ⟨rfl, rfl⟩)
    | (go_at_call 12; refine (Q _).mono ?_; rintro e w3 ⟨rfl, n3, rfl⟩)
    | (go_at_call 13; refine (M _).mono ?_; rintro e w4 ⟨rfl, rfl⟩)
    | (go_at_call 14; refine (K _).mono ?_; rintro e w5 ⟨rfl, rfl⟩))
  go_ret
  exact ⟨rfl, by repeat (first | exact Below.refl _ _ | apply below_drewN)⟩

set_option maxRecDepth 100000 in
set_option maxHeartbeats 2000000 in
theorem decodeLaw_yes (s : ByteArray) (h2 : s.size ≤ 200) (w : World) :
    Calls Try.prog 4 #[.string s] w fun e w' => e = .returned (.bool true) ∧ Below w.heap.size w w' := by
  have hl := (Dec.decT_len s.size s (Nat.le_refl _)).1
  have A := fun w => specDecode_any s w h2
  have B := fun w => implDecode_any s w h2
  generalize (Dec.decT s.size s).1 = zs at *
  go_enter Try.func4, Try.ntmps4
  go_wp2_with (go_at_call 10; refine (A _).mono ?_; rintro e w1 ⟨v0, rfl, i1, b1⟩)
  refine (B _).mono ?_
  rintro e w2 ⟨v1, rfl, i2, b2⟩
  have j1 := i1.below b2
  go_wp2_with fail
  refine (eq_any i2 j1).mono ?_
  rintro e w3 ⟨rfl, n3, rfl⟩
  go_wp2_with fail
  refine (mark_any (by omega) (i2.drewN n3)).mono ?_
  rintro e w4 ⟨rfl, i4, g4⟩
  have hne : v0.ownBlock = none ∨ v0.ownBlock ≠ v1.ownBlock := by
    cases c : v0.ownBlock with
    | none => exact .inl rfl
    | some k =>
      refine .inr fun e => ?_
      have l1 := (World.ownsRow.lt i1 k c).2
      have l2 := (World.ownsRow.lt i2 k e.symm).1
      omega
  have k1 : Ints w4 w.heap.size v0 zs := World.ownsRow.kept (j1.drewN n3) g4 hne
  have hb4 : Below w.heap.size w w4 := Below.grown (below_drewN (b1.trans (b2.mono b1.size)) n3) g4 (Nat.le_trans b1.size b2.size) (fun j hj => Nat.le_trans b1.size (World.ownsRow.lt i2 j hj).1)
  go_wp2_with fail
  refine (held_any (by omega) i4).mono ?_
  rintro e w5 ⟨rfl, rfl⟩
  go_wp2_with fail
  refine (B _).mono ?_
  rintro e w6 ⟨v2, rfl, i6, b6⟩
  have k6 := k1.below b6
  have i46 := i4.below b6
  have hb6 := hb4.trans (b6.mono hb4.size)
  go_wp2_with fail
  refine (eq_any i6 k6).mono ?_
  rintro e w7 ⟨rfl, n7, rfl⟩
  go_wp2_with fail
  refine (held_any (by omega) (i46.drewN n7)).mono ?_
  rintro e w8 ⟨rfl, rfl⟩
  go_wp2
  go_ret
  exact ⟨rfl, below_drewN hb6 n7⟩

set_option maxRecDepth 100000 in
set_option maxHeartbeats 1000000 in
theorem decodeLaw (s : ByteArray) (h0 : s.size ≤ maxLen) (w : World) :
    Calls Try.prog 4 #[.string s] w fun e w' => e = .returned (.bool true) ∧ Below w.heap.size w w' := by
  by_cases h1 : 1048576 < s.size
  · unfold maxLen at h0
    go_enter Try.func4, Try.ntmps4
    go_wp2
    go_ret
    exact ⟨rfl, Below.refl _ _⟩
  by_cases h2 : 200 < s.size
  · exact decodeLaw_no s h2 (by omega) w
  · exact decodeLaw_yes s (by omega) w

theorem own_fnExactDecodeText : ownKnob Try.prog.godebug = none := by kernel_rfl

open Go.ChangeShapes Go.WideShapes Go.ChangeAt in
open Go.ChangeMaps (open_string shut_string) in
set_option linter.unusedVariables false in
set_option maxRecDepth 100000 in
theorem fnExactDecodeText_lifted (os : Os) (started : os.Started) (H : Type) (enc : TypeId × Value → H) :
    ReturnsInHanded {} Try.checked os 4 .any (Rows.fnExactDecodeTextSpec.pre6 enc Try.prog Try.f4 Rows.fnExactDecodeTextRow.domain false) (Rows.fnExactDecodeTextSpec.post enc Try.prog Try.f4 false true false false) := by
  refine returnsInHanded_of_change (C := Try.checked) own_fnExactDecodeText started (by kernel_rfl) Try.func4
    (ChangeSpec.witness6 (enc := enc) (C := Try.checked) false ⟨#[], #[.string ByteArray.empty], []⟩ 8 (by kernel_rfl) (by kernel_rfl) (by kernel_rfl) (by kernel_rfl)) ?_
  intro W base args ds gs before hval0 hW hcnd _
  have hval : ∀ (j : Nat) t v, Try.f4.params[j]? = some t → args[j]? = some v → Value.okWide Try.prog W .any base t v := hval0
  have hW' := hW
  obtain ⟨p, q, hA0, hV, rfl, hfz, hnd⟩ := hW
  have hA : DataW.TrodAll enc Try.prog W 0 (fun _ => true) true Try.f4.params.toList args.toList ds p := hA0
  rw [Try.params4] at hA hval
  obtain ⟨v0, vs0, d0, ds0, p0, q0, hargs, rfl, rfl, h0, r0⟩ := trodAll_cons hA
  obtain ⟨rfl, rfl, rfl⟩ := trodAll_nil r0
  obtain rfl : args = #[v0] := by cases args; simp_all
  obtain ⟨rfl, rfl⟩ := trodVars_none hV
  obtain ⟨a0, rfl, rfl, rfl, w0⟩ := open_string Try.underlying9 (hval 0 9 v0 rfl rfl) h0
  clear hA0 hval0
  refine (decodeLaw a0 w0 W).mono fun e W' ⟨he, bel⟩ => ?_
  subst he
  exact ⟨_, rfl, _, _, _, [], [], [], hW', trodAll_mk1 (shut_bool Try.underlying4 _), (trodAll_cons_mk (shut_string Try.underlying9 w0) trodAll_mk0), rfl, bel.frame _, fun h => by cases h⟩

theorem fnExactDecodeText_holds : Rows.FnExactDecodeTextSaid :=
  OpenClaim.holds_of_wide 4 Try.f4 rfl rfl rfl rfl rfl rfl rfl ⟨rfl, rfl, rfl, rfl, rfl⟩ rfl rfl rfl rfl rfl (by kernel_rfl) Try.func4 (by kernel_rfl)
    (of_decide_eq_true (by kernel_rfl)) (by unfold Func.isWrapper; first | (rw [if_pos (by decide +kernel)]; kernel_rfl) | (rw [if_neg (by decide +kernel)]; exact ⟨rfl, rfl⟩))
    (fun os started H enc _ => fnExactDecodeText_lifted os started H enc)
#print axioms fnExactDecodeText_holds
end Go.Proofs.Ytahnbomjnnkclac
