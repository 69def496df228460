/- A rune is taken apart into one at least. -/
import Derived.Test.YtinjldagfhbioaaGreatDoorNorm3
namespace Go.Proofs.YtinjldagfhbioaaGreatDoor

theorem all2_pos (r : Int) : 1 ≤ (all2 r).length := by
  obtain ⟨h1, h2⟩ := all2_head r
  by_cases c : cls r = 0
  · obtain ⟨s, u, h, _⟩ := h1 c
    rw [h]; simp
  · rw [all2_leaf (h2 (by have := (cls_range r).1; omega))]; simp

theorem len_apD (zs : List Int) : zs.length ≤ (apD zs).length := by
  induction zs with
  | nil => simp
  | cons x zs ih =>
    have h1 := all2_pos x
    have e : apD (x :: zs) = all2 x ++ apD zs := by simp [apD]
    rw [e, List.length_append, List.length_cons]
    omega
end Go.Proofs.YtinjldagfhbioaaGreatDoor
