/- What runes weigh, case by case; a result block of an elem. -/
import Derived.Test.YtddelohmppdndaaGreatDoorIWeight
namespace Go.Proofs.YtddelohmppdndaaGreatDoor
open Go.RowKit

theorem base_cases (r : Int) : base r = [] ∨ (∃ e, base r = [e]) ∨ ∃ e f, base r = [e, f] := by
  have := base_len r
  match h : base r with
  | [] => exact .inl rfl
  | [e] => exact .inr (.inl ⟨e, rfl⟩)
  | [e, f] => exact .inr (.inr ⟨e, f, rfl⟩)
  | _ :: _ :: _ :: _ => rw [h] at this; simp at this

theorem base_first {r : Int} {e : El} (h : base r = [e]) : 0 ≤ e.first := by
  unfold base at h
  split at h
  · cases h; simp only; omega
  · split at h
    · cases h; simp
    · unfold baseRest at h
      split at h
      · cases h
      · split at h
        · cases h; simp only; omega
        · split at h
          · cases h; simp only; omega
          · split at h
            · cases h; simp only; omega
            · cases h

theorem one3_pos {e : El} (h : 0 < e.first) : one3 [e] = some e := if_neg (by omega)
theorem one3_zero {e : El} (h : 0 ≤ e.first) (h2 : ¬ 0 < e.first) : one3 [e] = none := if_pos (by omega)

/-- The result's block, still zero. -/
def Zel (u : World) (b : Nat) : Prop := u.heap[b]? = some (.cells #[.int .i64 0, .int .i64 0, .int .i64 0, .bool false] 67)
theorem Zel.facts {u : World} {b : Nat} (h : Zel u b) : b < u.heap.size ∧ (u.cell? ⟨b, 0, none⟩ = some (.int .i64 0) ∧ u.cell? ⟨b, 1, none⟩ = some (.int .i64 0) ∧ u.cell? ⟨b, 2, none⟩ = some (.int .i64 0) ∧ u.cell? ⟨b, 3, none⟩ = some (.bool false)) ∧ ∀ j, u.frozen? ⟨b, j, none⟩ = false :=
  ⟨(Array.getElem?_eq_some_iff.1 h).1, ⟨cell_of_row _ _ 0 _ _ _ h, cell_of_row _ _ 1 _ _ _ h, cell_of_row _ _ 2 _ _ _ h, cell_of_row _ _ 3 _ _ _ h⟩, fun j => by simp [World.frozen?, show u.heap[b]? = _ from h]⟩
theorem Zel.below {u u' : World} {b : Nat} (h : Zel u b) (hb : Below u.heap.size u u') : Zel u' b := (hb.block _ h.facts.1).trans h

theorem below_res1 {w wr : World} {b : Nat} (h : Below w.heap.size w wr) (hb : w.heap.size ≤ b) (x y z t : Value) : Below w.heap.size w ((((wr.setCell ⟨b, 0, none⟩ x).setCell ⟨b, 1, none⟩ y).setCell ⟨b, 2, none⟩ z).setCell ⟨b, 3, none⟩ t) :=
  (((h.setCell hb _).setCell hb _).setCell hb _).setCell hb _

theorem below_res1a {w wr : World} (h : Below w.heap.size w wr) (x y z t : Value) (o : Obj) : Below w.heap.size w (((((wr.setCell ⟨w.heap.size, 0, none⟩ x).setCell ⟨w.heap.size, 1, none⟩ y).setCell ⟨w.heap.size, 2, none⟩ z).setCell ⟨w.heap.size, 3, none⟩ t).alloc o) :=
  (below_res1 h (Nat.le_refl _) x y z t).alloc (below_res1 h (Nat.le_refl _) x y z t).size _
end Go.Proofs.YtddelohmppdndaaGreatDoor
