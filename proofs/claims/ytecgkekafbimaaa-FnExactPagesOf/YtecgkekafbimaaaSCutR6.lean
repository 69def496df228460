/- Contract of the specification's CutRows. -/
import Derived.Test.YtecgkekafbimaaaSCut6
import Derived.Test.YtecgkekafbimaaaSGood6
namespace Go.Proofs.Ytecgkekafbimaaa
open Go.RowKit

theorem cutA_is {l : List Rw} (hg : goodR l = true) : cutA l = cap40 (scF [] l) := by unfold cutA; rw [if_pos hg, cutF_is]

theorem cap40_sc {o : Option (List (List Rw))} {gs : List (List Rw)} (h : cap40 o = some gs) : o = some gs := by
  cases o with
  | none => cases h
  | some r =>
    have h' : (if r.length ≤ 40 then some r else none) = some gs := h
    split at h'
    · exact h'
    · cases h'

set_option maxRecDepth 100000 in
set_option maxHeartbeats 2000000 in
theorem specCut_any {w : World} {a : Option Addr} {l : List Rw} {c : Nat} (hS : SlRw w a l) (hl : l.length ≤ c) (hc : c ≤ 1048576) :
    Calls Try.prog 6 #[.slice a l.length c] w fun e w' => ∃ v, e = .returned (.tuple #[v, .bool (cutA l).isSome]) ∧ (∀ gs, cutA l = some gs → ∃ vs, NestR w' w.heap.size w'.heap.size v gs vs) ∧ (cutA l = none → v = .slice none 0 0) ∧ Below w.heap.size w w' := by
  have GD := specGR_any (cap := c) hS (by omega)
  cases hg : goodR l
  · have HA : Hid (cutA l = none) := by show _ = _; unfold cutA; rw [if_neg (by rw [hg]; decide)]
    rw [hg] at GD
    rw [HA.out]
    clear hS hg
    go_enter Try.func6, Try.ntmps6
    go_wp2_with fail
    refine GD.mono ?_
    rintro e w1 ⟨rfl, b1⟩
    clear GD
    go_wp2
    go_ret2
    exact ⟨_, rfl, fun gs h => (by cases h), fun _ => rfl, b1⟩
  · have SC := fun (u : World) (hu : Below w.heap.size w u) => specCutL_any (hS.below hu (Nat.le_refl _)) hg hl hc
    have HI := cutA_is hg
    rw [← HI] at SC
    obtain ⟨R, HR⟩ : ∃ R, Hid (cutA l = R) := ⟨_, rfl⟩
    have HSC : Hid (∀ gs, R = some gs → scF [] l = some gs) := fun gs h => cap40_sc (by rw [← HI, HR.out, h])
    rw [HR.out] at SC ⊢
    rw [hg] at GD
    clear hS hg HI HR
    generalize scF [] l = sc at *
    cases R with
    | none =>
      go_enter Try.func6, Try.ntmps6
      go_wp2_with fail
      refine GD.mono ?_
      rintro e w1 ⟨rfl, b1⟩
      have S1 := SC w1 b1
      have HB1 : Hid (Below w.heap.size w w1) := b1
      clear GD SC b1
      go_wp2_with fail
      refine S1.mono ?_
      rintro e w2 ⟨v2, rfl, _, _, b2⟩
      have HB2 : Hid (Below w.heap.size w w2) := HB1.out.trans (b2.mono HB1.out.size)
      clear S1
      go_wp2
      go_ret2
      exact ⟨_, rfl, fun gs h => (by cases h), fun _ => rfl, HB2.out⟩
    | some r =>
      go_enter Try.func6, Try.ntmps6
      go_wp2_with fail
      refine GD.mono ?_
      rintro e w1 ⟨rfl, b1⟩
      have S1 := SC w1 b1
      have HB1 : Hid (Below w.heap.size w w1) := b1
      clear GD SC b1
      go_wp2_with fail
      refine S1.mono ?_
      rintro e w2 ⟨v2, rfl, n2, _, b2⟩
      have HN : Hid (∀ gs, some r = some gs → ∃ vs, NestR w2 w.heap.size w2.heap.size v2 gs vs) := fun gs h => by
        obtain ⟨vs, q⟩ := n2 gs (HSC.out gs h)
        exact ⟨vs, q.low HB1.out.size⟩
      have HB2 : Hid (Below w.heap.size w w2) := HB1.out.trans (b2.mono HB1.out.size)
      clear S1 n2
      go_wp2
      go_ret2
      exact ⟨_, rfl, HN.out, fun h => (by cases h), HB2.out⟩
end Go.Proofs.Ytecgkekafbimaaa
