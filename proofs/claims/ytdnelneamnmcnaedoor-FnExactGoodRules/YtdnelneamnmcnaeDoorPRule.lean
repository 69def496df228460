/- What the program asks of entries and of the base, without memory. -/
import Derived.Test.YtdnelneamnmcnaeDoorRd
import Derived.Test.YtdnelneamnmcnaeDoorPBase
namespace Go.Proofs.YtdnelneamnmcnaeDoor

/-- The first weight of a rune that is one whole elem with a first weight. -/
def firstOf (r : Int) : Int := match one3 (base r) with
  | some e => e.first
  | none => 0

theorem firsts_taken : ((List.range 127).all fun k => match one3 (base (k : Int)) with | some e => takenB e.first | none => true) = true := by kernel_rfl

theorem taken_of {k : Nat} {e : El} (hk : k < 127) (h : one3 (base (k : Int)) = some e) : takenB e.first = true := by
  have := List.all_eq_true.1 firsts_taken k (List.mem_range.2 hk)
  rw [h] at this
  exact this

theorem one3_first {e : El} (h : e.first ≠ 0) : one3 [e] = some e := if_neg h

theorem taken_has {n : Int} (h : takenB n = true) : ∃ (k : Nat) (e : El), k < 127 ∧ one3 (base (k : Int)) = some e ∧ e.first = n := by
  rcases of_decide_eq_true h with ⟨h1, h2, h3⟩ | ⟨h1, h2, h3⟩ | h
  · obtain ⟨k, hk⟩ : ∃ k : Nat, (k : Int) = 48 + (n - 2000) / 100 := ⟨(48 + (n - 2000) / 100).toNat, by omega⟩
    refine ⟨k, ⟨2000 + 100 * ((k : Int) - 48), 32, 2, false⟩, by omega, ?_, by simp only; omega⟩
    rw [base_digit (by omega)]
    exact one3_first (by simp only; omega)
  · obtain ⟨k, hk⟩ : ∃ k : Nat, (k : Int) = 97 + (n - 4000) / 200 := ⟨(97 + (n - 4000) / 200).toNat, by omega⟩
    refine ⟨k, ⟨4000 + 200 * ((k : Int) - 97), 32, 2, false⟩, by omega, ?_, by simp only; omega⟩
    rw [base_small (by omega)]
    exact one3_first (by simp only; omega)
  · have h9 : n = 1 ∨ n = 2 ∨ n = 3 ∨ n = 4 ∨ n = 5 ∨ n = 6 ∨ n = 7 ∨ n = 8 ∨ n = 9 := by omega
    rcases h9 with rfl | rfl | rfl | rfl | rfl | rfl | rfl | rfl | rfl
    · exact ⟨32, ⟨1, 32, 2, true⟩, by omega, rfl, rfl⟩
    · exact ⟨95, ⟨2, 32, 2, true⟩, by omega, rfl, rfl⟩
    · exact ⟨45, ⟨3, 32, 2, true⟩, by omega, rfl, rfl⟩
    · exact ⟨44, ⟨4, 32, 2, true⟩, by omega, rfl, rfl⟩
    · exact ⟨59, ⟨5, 32, 2, true⟩, by omega, rfl, rfl⟩
    · exact ⟨58, ⟨6, 32, 2, true⟩, by omega, rfl, rfl⟩
    · exact ⟨33, ⟨7, 32, 2, true⟩, by omega, rfl, rfl⟩
    · exact ⟨63, ⟨8, 32, 2, true⟩, by omega, rfl, rfl⟩
    · exact ⟨46, ⟨9, 32, 2, true⟩, by omega, rfl, rfl⟩

def NoBase (n : Int) (k : Nat) : Prop := ∀ j e, j < k → one3 (base (j : Int)) = some e → e.first ≠ n

theorem NoBase.succ {n : Int} {k : Nat} (h : NoBase n k) (hn : ∀ e, one3 (base (k : Int)) = some e → e.first ≠ n) : NoBase n (k + 1) := by
  intro j e hj he
  by_cases c : j = k
  · subst c; exact hn e he
  · exact h j e (by omega) he

theorem NoBase.all {n : Int} {k : Nat} (h : NoBase n k) (hk : 127 ≤ k) : takenB n = false := by
  cases c : takenB n
  · rfl
  · obtain ⟨j, e, hj, he, hn⟩ := taken_has c
    exact absurd hn (h j e (by omega) he)

/-- The elem of the entry with these runes. -/
def entOf (es : List Ent) (l : List Int) : Option El := if 0 ≤ atE es l then (es[(atE es l).toNat]?).map (·.el) else none

theorem entOf_hit {es : List Ent} {l : List Int} {e : Ent} {k : Nat} (h : NoEnt es l k) (hx : es[k]? = some e) (hr : e.runes = l) : entOf es l = some e.el := by
  unfold entOf
  rw [atE_hit h hx hr, if_pos (by omega), Int.toNat_natCast, hx]; rfl

theorem entOf_none {es : List Ent} {l : List Int} {k : Nat} (h : NoEnt es l k) (hk : es.length ≤ k) : entOf es l = none := by
  unfold entOf
  rw [atE_none h hk, if_neg (by omega)]

theorem entOf_some {es : List Ent} {l : List Int} : (entOf es l).isSome = decide (0 ≤ atE es l) := by
  rcases atE_cases es l with h | ⟨i, e, he, h⟩
  · unfold entOf; rw [h]; rfl
  · unfold entOf; rw [h, if_pos (by omega), Int.toNat_natCast, he]; simp

theorem elemE_of {es : List Ent} {l : List Int} {e : El} (h : entOf es l = some e) : elemE es l = some e := by
  unfold entOf at h
  unfold elemE
  split at h
  · rename_i c; rw [if_pos c]; exact h
  · cases h

theorem atE_of_none {es : List Ent} {l : List Int} (h : entOf es l = none) : atE es l = -1 := by
  rcases atE_cases es l with c | ⟨i, e, he, c⟩
  · exact c
  · unfold entOf at h
    rw [c, if_pos (by omega), Int.toNat_natCast, he] at h
    cases h

/-- Ahead of its own place no entry has these runes: that is what makes a good one's place its own. -/
theorem noEnt_take {es : List Ent} {l : List Int} {k : Nat} : entOf (es.take k) l = none → NoEnt es l k := by
  intro h j e hj he hr
  have h1 := atE_of_none h
  unfold atE at h1
  have : (es.take k).findIdx? (fun e => decide (e.runes = l)) = none := by
    cases c : (es.take k).findIdx? (fun e => decide (e.runes = l)) with
    | none => rfl
    | some i => rw [c] at h1; simp only at h1; omega
  rw [List.findIdx?_eq_none_iff] at this
  have h2 := this e (List.mem_of_getElem? (i := j) (by rw [List.getElem?_take_of_lt hj]; exact he))
  simp [hr] at h2

theorem atE_here {es : List Ent} {e : Ent} {k : Nat} (he : es[k]? = some e) : (entOf (es.take k) e.runes = none) ↔ atE es e.runes = (k : Int) := by
  constructor
  · intro h
    exact atE_hit (noEnt_take h) he rfl
  · intro h
    cases c : entOf (es.take k) e.runes with
    | none => rfl
    | some x =>
      exfalso
      rcases atE_cases (es.take k) e.runes with d | ⟨i, y, hy, d⟩
      · unfold entOf at c; rw [d, if_neg (by omega)] at c; cases c
      · have hik : i < k := by
          have := (List.getElem?_eq_some_iff.1 hy).1
          rw [List.length_take] at this; omega
        rw [List.getElem?_take_of_lt hik] at hy
        unfold atE at d h
        cases f : (es.take k).findIdx? (fun x => decide (x.runes = e.runes)) with
        | none => rw [f] at d; simp only at d; omega
        | some m =>
          rw [f] at d
          have hm : m = i := by simp only at d; omega
          subst hm
          obtain ⟨h1, h2, h3⟩ := List.findIdx?_eq_some_iff_getElem.1 f
          have h4 : es.findIdx? (fun x => decide (x.runes = e.runes)) = some m := by
            have hm2 : m < es.length := by rw [List.length_take] at h1; omega
            rw [List.findIdx?_eq_some_iff_getElem]
            refine ⟨hm2, ?_, fun j hj => ?_⟩
            · simpa using h2
            · have := h3 j hj
              simpa using this
          rw [h4] at h
          simp only at h
          omega
end Go.Proofs.YtdnelneamnmcnaeDoor
