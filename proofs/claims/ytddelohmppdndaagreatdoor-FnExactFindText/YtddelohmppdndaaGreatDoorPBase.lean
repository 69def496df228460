/- What a rune weighs, in the order in which the program asks; which first weights the base has. -/
import Derived.Test.YtddelohmppdndaaGreatDoorSBase
namespace Go.Proofs.YtddelohmppdndaaGreatDoor

theorem place_out {l : List Int} {r : Int} (h : r ∉ l) : placeIn l r = none := by
  unfold placeIn
  rw [List.findIdx?_eq_none_iff]
  intro x hx
  simp only [beq_eq_false_iff_ne]
  intro e
  exact h (e ▸ hx)

theorem place_in {l : List Int} {r : Int} (h : r ∈ l) : ∃ i, placeIn l r = some i ∧ i < l.length := by
  cases e : placeIn l r with
  | some i => exact ⟨i, rfl, by unfold placeIn at e; exact (List.findIdx?_eq_some_iff_getElem.1 e).1⟩
  | none =>
    unfold placeIn at e
    have := List.findIdx?_eq_none_iff.1 e r h
    simp at this

/-- Where a rune stands among those that vary; less than 0: nowhere. -/
def idxV (r : Int) : Int := match placeIn vsl r with
  | some i => (i : Int)
  | none => -1

theorem base_vs {r : Int} {i : Nat} (h : placeIn vsl r = some i) : base r = [⟨1 + (i : Int), 32, 2, true⟩] := by unfold base; rw [h]
theorem base_mk {r : Int} {i : Nat} (h0 : placeIn vsl r = none) (h : placeIn mkl r = some i) : base r = [⟨0, 40 + (i : Int), 2, false⟩] := by unfold base; rw [h0]; simp only; rw [h]
theorem base_rest {r : Int} (h0 : placeIn vsl r = none) (h : placeIn mkl r = none) : base r = baseRest r := by unfold base; rw [h0]; simp only; rw [h]

theorem vsl_bd : ∀ x ∈ vsl, 32 ≤ x ∧ x ≤ 126 ∧ ¬ (48 ≤ x ∧ x ≤ 57) ∧ ¬ (97 ≤ x ∧ x ≤ 122) ∧ ¬ (65 ≤ x ∧ x ≤ 90) := by decide
theorem mkl_bd : ∀ x ∈ mkl, 128 ≤ x := by decide
theorem vs_far {r : Int} (h : ¬ (32 ≤ r ∧ r ≤ 126)) : placeIn vsl r = none := place_out fun c => h ⟨(vsl_bd r c).1, (vsl_bd r c).2.1⟩
theorem mk_far {r : Int} (h : r < 128) : placeIn mkl r = none := place_out fun c => by have := mkl_bd r c; omega

theorem base_ctl {r : Int} (_h0 : 0 ≤ r) (h : r ≤ 31 ∨ r = 127) : base r = [] := by
  rw [base_rest (vs_far (by omega)) (mk_far (by omega))]
  unfold baseRest
  rw [if_pos (by omega)]

theorem base_digit {r : Int} (h : 48 ≤ r ∧ r ≤ 57) : base r = [⟨2000 + 100 * (r - 48), 32, 2, false⟩] := by
  rw [base_rest (place_out fun c => (vsl_bd r c).2.2.1 h) (mk_far (by omega))]
  unfold baseRest
  rw [if_neg (by omega), if_pos h]

theorem base_small {r : Int} (h : 97 ≤ r ∧ r ≤ 122) : base r = [⟨4000 + 200 * (r - 97), 32, 2, false⟩] := by
  rw [base_rest (place_out fun c => (vsl_bd r c).2.2.2.1 h) (mk_far (by omega))]
  unfold baseRest
  rw [if_neg (by omega), if_neg (by omega), if_pos h]

theorem base_cap {r : Int} (h : 65 ≤ r ∧ r ≤ 90) : base r = [⟨4000 + 200 * (r - 65), 32, 8, false⟩] := by
  rw [base_rest (place_out fun c => (vsl_bd r c).2.2.2.2 h) (mk_far (by omega))]
  unfold baseRest
  rw [if_neg (by omega), if_neg (by omega), if_neg (by omega), if_pos h]

theorem base_two {r : Int} (h0 : placeIn vsl r = none) (h : placeIn mkl r = none) (h1 : ¬ (r ≤ 31 ∨ r = 127)) (h2 : ¬ (48 ≤ r ∧ r ≤ 57)) (h3 : ¬ (97 ≤ r ∧ r ≤ 122)) (h4 : ¬ (65 ≤ r ∧ r ≤ 90)) : base r = [⟨60000 + r / 32768, 32, 2, false⟩, ⟨32768 + r % 32768, 0, 0, false⟩] := by
  rw [base_rest h0 h]
  unfold baseRest
  rw [if_neg (by omega), if_neg h2, if_neg h3, if_neg h4]
end Go.Proofs.YtddelohmppdndaaGreatDoor
