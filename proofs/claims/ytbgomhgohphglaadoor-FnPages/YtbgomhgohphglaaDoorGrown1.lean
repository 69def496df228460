/- One cell set: what has turned. -/
import Derived.Test.YtbgomhgohphglaaDoorInts
namespace Go.Proofs.YtbgomhgohphglaaDoor
open Go.RowKit

theorem setCell_grown (u : World) (b o : Nat) (x : Value) : u.grownBy (u.setCell ⟨b, o, none⟩ x) (some b) := by
  refine ⟨rfl, rfl, rfl, by simp, fun k hk hne => ?_⟩
  have h : b ≠ k := fun e => hne (by rw [e])
  simp [World.setCell, Array.getElem?_modify, h]

theorem grown_ge {w u u' : World} {b : Nat} (h : Below w.heap.size w u) (hg : u.grownBy u' (some b)) (hb : w.heap.size ≤ b) : Below w.heap.size w u' := Below.grown h hg h.size (fun j hj => by cases hj; exact hb)
end Go.Proofs.YtbgomhgohphglaaDoor
