/- A row of integers of the call's own: what is known of it, and what keeps it. -/
import Derived.Test.YtinjldagfhbioaaGreatDoorProg
import Derived.WalkKit
import Derived.WalkSpells
import Derived.WalkLawsBesides
import Derived.WalkSmall
import Derived.Laws.OwnMore
import Derived.Deep.QuietTactic
namespace Go.Proofs.YtinjldagfhbioaaGreatDoor
open Go.RowKit

theorem info_int : (Tryz.prog.info? 3).map (fun i => (i.zero, i.size, i.bytes)) = some (some (.int .i64 0), 1, 8) := by kernel_rfl

def Ints (w : World) (base : Nat) (v : Value) (zs : List Int) : Prop := w.ownsRow base 3 1 v zs.length (zs.map (Value.int .i64))

theorem Ints.snoc {w : World} {base : Nat} {v : Value} {zs : List Int} {x : Int} (h : w.ownsRow base 3 1 v (zs.length + 1) (zs.map (Value.int .i64) ++ [.int .i64 x])) : Ints w base v (zs ++ [x]) := by
  unfold Ints; simpa using h

theorem Ints.form {w : World} {B : Nat} {v : Value} {zs : List Int} (h : Ints w B v zs) : (v = .slice none 0 0 ∧ zs = []) ∨ ∃ g cap, v = .slice (some ⟨g, 0, none⟩) zs.length cap ∧ zs.length ≤ cap ∧ cap ≤ maxLen := by
  rcases h.2 with ⟨a, b⟩ | ⟨g, cap, cur, a, b, c, d, e, _⟩
  · exact .inl ⟨a, by simpa using b⟩
  · exact .inr ⟨g, cap, a, d, e⟩

theorem Ints.cell {w : World} {B : Nat} {g cap : Nat} {zs : List Int} (h : Ints w B (.slice (some ⟨g, 0, none⟩) zs.length cap) zs) (j : Nat) (hj : j < zs.length) :
    w.cell? ⟨g, j, none⟩ = some (.int .i64 (zs[j]?.getD 0)) := by
  rw [World.ownsRow.cellAt h j (by omega)]
  simp [hj]

theorem drewN_grown (w : World) (n : Nat) (row : Option Nat) : w.grownBy (w.drewN n) row := ⟨rfl, rfl, rfl, Nat.le_refl _, fun _ _ _ => rfl⟩

theorem Ints.drewN {w : World} {B : Nat} {v : Value} {zs : List Int} (h : Ints w B v zs) (n : Nat) : Ints (w.drewN n) B v zs := h

theorem Ints.below {w w' : World} {B : Nat} {v : Value} {zs : List Int} (h : Ints w B v zs) (hb : Below w.heap.size w w') : Ints w' B v zs :=
  World.ownsRow.kept h (row := none) ⟨hb.os, hb.tape, hb.output, hb.size, fun k hk _ => hb.block k hk⟩ (by cases h : v.ownBlock <;> simp)

end Go.Proofs.YtinjldagfhbioaaGreatDoor
