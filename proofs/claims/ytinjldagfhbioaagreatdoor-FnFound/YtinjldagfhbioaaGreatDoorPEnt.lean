/- Which entry has these runes, without memory. -/
import Derived.Test.YtinjldagfhbioaaGreatDoorSEl3
namespace Go.Proofs.YtinjldagfhbioaaGreatDoor

/-- The elem of the entry with these runes. -/
def entOf (es : List Ent) (l : List Int) : Option El := if 0 ≤ atE es l then (es[(atE es l).toNat]?).map (·.el) else none

theorem entOf_hit {es : List Ent} {l : List Int} {e : Ent} {k : Nat} (h : NoEnt es l k) (hx : es[k]? = some e) (hr : e.runes = l) : entOf es l = some e.el := by
  unfold entOf
  rw [atE_hit h hx hr, if_pos (by omega), Int.toNat_natCast, hx]; rfl

theorem entOf_none {es : List Ent} {l : List Int} {k : Nat} (h : NoEnt es l k) (hk : es.length ≤ k) : entOf es l = none := by
  unfold entOf
  rw [atE_none h hk, if_neg (by omega)]

theorem entOf_some {es : List Ent} {l : List Int} : (entOf es l).isSome = decide (0 ≤ atE es l) := by
  rcases atE_cases es l with h | ⟨i, e, he, h⟩
  · unfold entOf; rw [h]; rfl
  · unfold entOf; rw [h, if_pos (by omega), Int.toNat_natCast, he]; simp

theorem elemE_of {es : List Ent} {l : List Int} {e : El} (h : entOf es l = some e) : elemE es l = some e := by
  unfold entOf at h
  unfold elemE
  split at h
  · rename_i c; rw [if_pos c]; exact h
  · cases h

theorem atE_of_none {es : List Ent} {l : List Int} (h : entOf es l = none) : atE es l = -1 := by
  rcases atE_cases es l with c | ⟨i, e, he, c⟩
  · exact c
  · unfold entOf at h
    rw [c, if_pos (by omega), Int.toNat_natCast, he] at h
    cases h

/-- Ahead of its own place no entry has these runes: that is what makes a good one's place its own. -/
theorem noEnt_take {es : List Ent} {l : List Int} {k : Nat} : entOf (es.take k) l = none → NoEnt es l k := by
  intro h j e hj he hr
  have h1 := atE_of_none h
  unfold atE at h1
  have : (es.take k).findIdx? (fun e => decide (e.runes = l)) = none := by
    cases c : (es.take k).findIdx? (fun e => decide (e.runes = l)) with
    | none => rfl
    | some i => rw [c] at h1; simp only at h1; omega
  rw [List.findIdx?_eq_none_iff] at this
  have h2 := this e (List.mem_of_getElem? (i := j) (by rw [List.getElem?_take_of_lt hj]; exact he))
  simp [hr] at h2

theorem atE_here {es : List Ent} {e : Ent} {k : Nat} (he : es[k]? = some e) : (entOf (es.take k) e.runes = none) ↔ atE es e.runes = (k : Int) := by
  constructor
  · intro h
    exact atE_hit (noEnt_take h) he rfl
  · intro h
    cases c : entOf (es.take k) e.runes with
    | none => rfl
    | some x =>
      exfalso
      rcases atE_cases (es.take k) e.runes with d | ⟨i, y, hy, d⟩
      · unfold entOf at c; rw [d, if_neg (by omega)] at c; cases c
      · have hik : i < k := by
          have := (List.getElem?_eq_some_iff.1 hy).1
          rw [List.length_take] at this; omega
        rw [List.getElem?_take_of_lt hik] at hy
        unfold atE at d h
        cases f : (es.take k).findIdx? (fun x => decide (x.runes = e.runes)) with
        | none => rw [f] at d; simp only at d; omega
        | some m =>
          rw [f] at d
          have hm : m = i := by simp only at d; omega
          subst hm
          obtain ⟨h1, h2, h3⟩ := List.findIdx?_eq_some_iff_getElem.1 f
          have h4 : es.findIdx? (fun x => decide (x.runes = e.runes)) = some m := by
            have hm2 : m < es.length := by rw [List.length_take] at h1; omega
            rw [List.findIdx?_eq_some_iff_getElem]
            refine ⟨hm2, ?_, fun j hj => ?_⟩
            · simpa using h2
            · have := h3 j hj
              simpa using this
          rw [h4] at h
          simp only at h
          omega
end Go.Proofs.YtinjldagfhbioaaGreatDoor
