/- Proved: for every list of ints l, of whatever length, impl.EncodeRunes answers as the specification's EncodeRunes and writes nothing into its argument, so the law FnExactEncodeRunes returns true and leaves the input as it was; no condition. -/
import Derived.Test.YtahnbomjnnkclacEncodeI
import Derived.Test.YtahnbomjnnkclacToInt
import Derived.Test.YtahnbomjnnkclacRows
import Derived.WalkKit
import Derived.ProofKit
import Derived.OpenShut
import Derived.ShutString
import Derived.ChangeOld
import Derived.Below
namespace Go.Proofs.Ytahnbomjnnkclac
open Go.ChangeShapes Go.WideShapes Go.ChangeAt Go.RowKit

def IsRow (k : IntKind) (w : World) (a : Option Addr) (len cap : Nat) (zs : List Int) : Prop :=
  (a = none ∧ len = 0 ∧ cap = 0 ∧ zs = []) ∨
  ∃ x, a = some x ∧ len ≤ cap ∧ cap ≤ maxLen ∧ zs.length = cap ∧ (∀ i, i < zs.length → w.cell? (x.add i) = some (.int k (zs.getD i 0))) ∧ ∀ n ∈ zs, (Lit.int k n).wf = true

theorem toInt_any (w w1 : World) (a0 : Option Addr) (len cap : Nat) (zs : List Int) (h : IsRow .i64 w a0 len cap zs) (hb : Below w.heap.size w w1) (hm : len ≤ 1048576) :
    Calls Try.prog 16 #[.slice a0 len cap] w1 fun e w' => ∃ v, e = .returned v ∧ Ints w' w1.heap.size v (zs.take len) ∧ Below w1.heap.size w1 w' := by
  rcases h with ⟨rfl, rfl, rfl, rfl⟩ | ⟨x, rfl, hl, hc, hz, hcell, _⟩
  · exact toInt_none w1 _ _
  · by_cases h0 : len = 0
    · subst h0
      exact toInt_none w1 _ _
    · obtain ⟨b, off, rfl, hc2⟩ := ints_at hcell (by omega)
      have hlt : b < w.heap.size := by
        have h1 := hc2 0 (by omega)
        apply Classical.byContradiction
        intro hn
        have : w.heap[b]? = none := by simp; omega
        simp [World.cell?, this] at h1
      exact toInt_row w1 b off len cap zs (by omega) (by omega) (Nat.lt_of_lt_of_le hlt hb.size) (fun j hj => by
        rw [hb.cell (p := ⟨b, off + j, none⟩) hlt, hc2 j (by omega)]; rfl)

set_option maxRecDepth 100000 in
set_option maxHeartbeats 1000000 in
theorem encodeLaw (a0 : Option Addr) (len0 cap0 : Nat) (z0 : List Int) (w : World) (w0 : IsRow .i64 w a0 len0 cap0 z0) :
    Calls Try.prog 5 #[.slice a0 len0 cap0] w fun e w' => e = .returned (.bool true) ∧ Below w.heap.size w w' := by
  have hmx : len0 ≤ 9223372036854775807 := by
    rcases w0 with ⟨_, rfl, _, _⟩ | ⟨_, _, h1, h2, _⟩
    · omega
    · unfold maxLen at h2; omega
  by_cases h1 : 1048576 < len0
  · go_enter Try.func5, Try.ntmps5
    go_wp2
    go_ret
    exact ⟨rfl, Below.refl _ _⟩
  have T := fun w1 hb => toInt_any w w1 a0 len0 cap0 z0 w0 hb (by omega)
  have hlen : (z0.take len0).length ≤ 1048576 := by simp; omega
  generalize z0.take len0 = zs at *
  clear w0
  go_enter Try.func5, Try.ntmps5
  go_wp2_with fail
  refine (T _ (Below.refl _ _)).mono ?_
  rintro e w1 ⟨v1, rfl, i1, b1⟩
  go_wp2_with fail
  refine (specEnc_any hlen i1).mono ?_
  rintro e w2 ⟨rfl, b2⟩
  have c2 := b1.trans (b2.mono b1.size)
  go_wp2_with fail
  refine (T _ c2).mono ?_
  rintro e w3 ⟨v3, rfl, i3, b3⟩
  have c3 := c2.trans (b3.mono c2.size)
  go_wp2_with fail
  refine (implEnc_any hlen i3).mono ?_
  rintro e w4 ⟨rfl, b4⟩
  have c4 := c3.trans (b4.mono c3.size)
  have i4 := i3.below b4
  generalize encS zs = es
  generalize encOk zs = eo
  go_wp2_with fail
  refine (T _ c4).mono ?_
  rintro e w5 ⟨v5, rfl, i5, b5⟩
  have c5 := c4.trans (b5.mono c4.size)
  have i35 := i4.below b5
  go_wp2_with fail
  refine (eq_any i35 i5).mono ?_
  rintro e w6 ⟨rfl, n6, rfl⟩
  go_wp2
  go_ret
  exact ⟨rfl, below_drewN c5 n6⟩

theorem own_enc : ownKnob Try.prog.godebug = none := by kernel_rfl
theorem laidOut_enc : laidOutB Try.prog = true := by kernel_rfl

set_option linter.unusedVariables false in
set_option maxRecDepth 100000 in
theorem fnExactEncodeRunes_lifted (os : Os) (started : os.Started) (H : Type) (enc : TypeId × Value → H) :
    ReturnsInHanded {} Try.checked os 5 .any (Rows.fnExactEncodeRunesSpec.pre6 enc Try.prog Try.f5 Rows.fnExactEncodeRunesRow.domain false) (Rows.fnExactEncodeRunesSpec.post enc Try.prog Try.f5 false true false false) := by
  refine returnsInHanded_of_change (C := Try.checked) own_enc started (by kernel_rfl) Try.func5
    (ChangeSpec.witness6 (enc := enc) (C := Try.checked) false ⟨#[], #[.slice none 0 0], []⟩ 8 (by kernel_rfl) (by kernel_rfl) (by kernel_rfl) (by kernel_rfl)) ?_
  intro W base args ds gs before hval0 hW hcnd _
  have hval : ∀ (j : Nat) t v, Try.f5.params[j]? = some t → args[j]? = some v → Value.okWide Try.prog W .any base t v := hval0
  have hW' := hW
  obtain ⟨p, q, hA0, hV, rfl, hfz, hnd⟩ := hW
  have hA : DataW.TrodAll enc Try.prog W 0 (fun _ => true) true Try.f5.params.toList args.toList ds p := hA0
  rw [Try.params5] at hA hval
  obtain ⟨v0, vs0, d0, ds0, p0, q0, hargs, rfl, rfl, h0, r0⟩ := trodAll_cons hA
  obtain ⟨rfl, rfl, rfl⟩ := trodAll_nil r0
  obtain rfl : args = #[v0] := by cases args; simp_all
  obtain ⟨rfl, rfl⟩ := trodVars_none hV
  obtain ⟨a0, len0, cap0, rfl⟩ := okWide_slice Try.underlying23 (hval 0 23 v0 rfl rfl)
  have k0 := h0
  have lt0 : ∀ x ∈ p0, x.block < W.heap.size := by obtain ⟨m, hm⟩ := k0; exact DataW.trod_lt m _ _ _ hm
  obtain ⟨z0, w0⟩ : ∃ zs, IsRow .i64 W a0 len0 cap0 zs := by
    obtain ⟨fuel, hf⟩ := h0
    rcases open_ints Try.underlying23 Try.underlying3 (by kernel_rfl) hf with ⟨hcs, _⟩ | ⟨x, l, c, zs, hcs, _, hl, hm, hz, _, hcell, hwz⟩
    · simp [Value.cells] at hcs
      obtain ⟨rfl, rfl, rfl⟩ := hcs
      exact ⟨[], .inl ⟨rfl, rfl, rfl, rfl⟩⟩
    · simp [Value.cells] at hcs
      obtain ⟨rfl, rfl, rfl⟩ := hcs
      exact ⟨zs, .inr ⟨_, rfl, hl, hm, by simpa using hz, hcell, hwz⟩⟩
  clear hA0 hval0
  refine (encodeLaw a0 len0 cap0 z0 W w0).mono fun e W' ⟨he, bel⟩ => ?_
  subst he
  exact ⟨_, rfl, _, _, _, [], _, [], hW', trodAll_mk1 (shut_bool Try.underlying4 _), (trodAll_cons_mk (Below.trod laidOut_enc (by kernel_rfl) (of_decide_eq_true (by kernel_rfl)) k0 bel lt0) trodAll_mk0), rfl, bel.frame _, fun h => by cases h⟩

theorem fnExactEncodeRunes_holds : Rows.FnExactEncodeRunesSaid :=
  OpenClaim.holds_of_wide 5 Try.f5 rfl rfl rfl rfl rfl rfl rfl ⟨rfl, rfl, rfl, rfl, rfl⟩ rfl rfl rfl rfl rfl (by kernel_rfl) Try.func5 (by kernel_rfl)
    (of_decide_eq_true (by kernel_rfl)) (by unfold Func.isWrapper; first | (rw [if_pos (by decide +kernel)]; kernel_rfl) | (rw [if_neg (by decide +kernel)]; exact ⟨rfl, rfl⟩))
    (fun os started H enc _ => fnExactEncodeRunes_lifted os started H enc)

#print axioms fnExactEncodeRunes_holds
end Go.Proofs.Ytahnbomjnnkclac
