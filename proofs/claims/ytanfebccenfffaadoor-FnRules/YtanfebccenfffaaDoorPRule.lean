/- Which first weights the base has. -/
import Derived.Test.YtanfebccenfffaaDoorRd
import Derived.Test.YtanfebccenfffaaDoorPBase
import Derived.Test.YtanfebccenfffaaDoorPEnt
namespace Go.Proofs.YtanfebccenfffaaDoor

/-- The first weight of a rune that is one whole elem with a first weight. -/
def firstOf (r : Int) : Int := match one3 (base r) with
  | some e => e.first
  | none => 0

theorem firsts_taken : ((List.range 127).all fun k => match one3 (base (k : Int)) with | some e => takenB e.first | none => true) = true := by kernel_rfl

theorem taken_of {k : Nat} {e : El} (hk : k < 127) (h : one3 (base (k : Int)) = some e) : takenB e.first = true := by
  have := List.all_eq_true.1 firsts_taken k (List.mem_range.2 hk)
  rw [h] at this
  exact this

theorem one3_first {e : El} (h : e.first ≠ 0) : one3 [e] = some e := if_neg h

theorem taken_has {n : Int} (h : takenB n = true) : ∃ (k : Nat) (e : El), k < 127 ∧ one3 (base (k : Int)) = some e ∧ e.first = n := by
  rcases of_decide_eq_true h with ⟨h1, h2, h3⟩ | ⟨h1, h2, h3⟩ | h
  · obtain ⟨k, hk⟩ : ∃ k : Nat, (k : Int) = 48 + (n - 2000) / 100 := ⟨(48 + (n - 2000) / 100).toNat, by omega⟩
    refine ⟨k, ⟨2000 + 100 * ((k : Int) - 48), 32, 2, false⟩, by omega, ?_, by simp only; omega⟩
    rw [base_digit (by omega)]
    exact one3_first (by simp only; omega)
  · obtain ⟨k, hk⟩ : ∃ k : Nat, (k : Int) = 97 + (n - 4000) / 200 := ⟨(97 + (n - 4000) / 200).toNat, by omega⟩
    refine ⟨k, ⟨4000 + 200 * ((k : Int) - 97), 32, 2, false⟩, by omega, ?_, by simp only; omega⟩
    rw [base_small (by omega)]
    exact one3_first (by simp only; omega)
  · have h9 : n = 1 ∨ n = 2 ∨ n = 3 ∨ n = 4 ∨ n = 5 ∨ n = 6 ∨ n = 7 ∨ n = 8 ∨ n = 9 := by omega
    rcases h9 with rfl | rfl | rfl | rfl | rfl | rfl | rfl | rfl | rfl
    · exact ⟨32, ⟨1, 32, 2, true⟩, by omega, rfl, rfl⟩
    · exact ⟨95, ⟨2, 32, 2, true⟩, by omega, rfl, rfl⟩
    · exact ⟨45, ⟨3, 32, 2, true⟩, by omega, rfl, rfl⟩
    · exact ⟨44, ⟨4, 32, 2, true⟩, by omega, rfl, rfl⟩
    · exact ⟨59, ⟨5, 32, 2, true⟩, by omega, rfl, rfl⟩
    · exact ⟨58, ⟨6, 32, 2, true⟩, by omega, rfl, rfl⟩
    · exact ⟨33, ⟨7, 32, 2, true⟩, by omega, rfl, rfl⟩
    · exact ⟨63, ⟨8, 32, 2, true⟩, by omega, rfl, rfl⟩
    · exact ⟨46, ⟨9, 32, 2, true⟩, by omega, rfl, rfl⟩

def NoBase (n : Int) (k : Nat) : Prop := ∀ j e, j < k → one3 (base (j : Int)) = some e → e.first ≠ n

theorem NoBase.succ {n : Int} {k : Nat} (h : NoBase n k) (hn : ∀ e, one3 (base (k : Int)) = some e → e.first ≠ n) : NoBase n (k + 1) := by
  intro j e hj he
  by_cases c : j = k
  · subst c; exact hn e he
  · exact h j e (by omega) he

theorem NoBase.all {n : Int} {k : Nat} (h : NoBase n k) (hk : 127 ≤ k) : takenB n = false := by
  cases c : takenB n
  · rfl
  · obtain ⟨j, e, hj, he, hn⟩ := taken_has c
    exact absurd hn (h j e (by omega) he)
end Go.Proofs.YtanfebccenfffaaDoor
