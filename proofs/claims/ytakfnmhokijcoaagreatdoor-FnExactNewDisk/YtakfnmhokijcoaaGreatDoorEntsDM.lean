/- Rows of entries whose lists share no block; what lies between two blocks has turned alone. -/
import Derived.Test.YtakfnmhokijcoaaGreatDoorEntsSet
namespace Go.Proofs.YtakfnmhokijcoaaGreatDoor
open Go.RowKit

/-- A row of entries of the call's own, no two of whose lists share a block; all its blocks lie ahead of T. -/
def EntsD (w : World) (B T : Nat) (v : Value) (es : List Ent) : Prop :=
  ∃ xs : List Value, xs.length = es.length ∧ w.ownsRow B 52 5 v es.length (entAll xs es) ∧ (∀ (k : Nat) (e : Ent), es[k]? = some e → ∃ x, xs[k]? = some x ∧ Ints w B x e.runes) ∧
    (∀ (i j : Nat) (x y : Value), i ≠ j → xs[i]? = some x → xs[j]? = some y → x.ownBlock = none ∨ x.ownBlock ≠ y.ownBlock) ∧
    (∀ g, v.ownBlock = some g → g < T) ∧ ∀ (i : Nat) (x : Value) (g : Nat), xs[i]? = some x → x.ownBlock = some g → g < T

theorem EntsD.ents {w : World} {B T : Nat} {v : Value} {es : List Ent} (h : EntsD w B T v es) : Ents w B v es := by
  obtain ⟨xs, hl, h1, h2, _⟩ := h
  exact ⟨xs, hl, h1, h2⟩

theorem EntsD.nil (w : World) (B T : Nat) : EntsD w B T (.slice none 0 0) [] := ⟨[], rfl, ⟨rfl, .inl ⟨rfl, rfl⟩⟩, fun k e h => by simp at h, fun i j x y _ h => by simp at h, (fun g h => by simp [Value.ownBlock] at h), (fun i x g h => by simp at h)⟩

theorem EntsD.below {w w' : World} {B T : Nat} {v : Value} {es : List Ent} (h : EntsD w B T v es) (hb : Below w.heap.size w w') : EntsD w' B T v es := by
  obtain ⟨xs, hl, h1, h2, h3, h4, h5⟩ := h
  refine ⟨xs, hl, World.ownsRow.kept h1 (row := none) ⟨hb.os, hb.tape, hb.output, hb.size, fun k hk _ => hb.block k hk⟩ (by cases h : v.ownBlock <;> simp), fun k e he => ?_, h3, h4, h5⟩
  obtain ⟨x, hx, hI⟩ := h2 k e he
  exact ⟨x, hx, hI.below hb⟩

/-- What lies ahead of B or from T on has not turned. -/
structure Mid (B T : Nat) (w w' : World) : Prop where
  os : w'.os = w.os
  tape : w'.tape = w.tape
  output : w'.output = w.output
  size : w.heap.size ≤ w'.heap.size
  block : ∀ b, b < w.heap.size → (b < B ∨ T ≤ b) → w'.heap[b]? = w.heap[b]?

theorem Mid.refl (B T : Nat) (w : World) : Mid B T w w := ⟨rfl, rfl, rfl, Nat.le_refl _, fun _ _ _ => rfl⟩

theorem Mid.grown {B T : Nat} {w u u' : World} {row : Option Nat} (h : Mid B T w u) (hg : u.grownBy u' row) (hr : ∀ g, row = some g → B ≤ g ∧ g < T) : Mid B T w u' := by
  refine ⟨hg.os.trans h.os, hg.tape.trans h.tape, hg.output.trans h.output, Nat.le_trans h.size hg.size, fun b hb hbt => ?_⟩
  rw [hg.block b (Nat.lt_of_lt_of_le hb h.size) (fun e => by have := hr b e.symm; omega)]
  exact h.block b hb hbt

theorem Mid.trans {B T : Nat} {w u u' : World} (h : Mid B T w u) (h' : Mid B T u u') : Mid B T w u' :=
  ⟨h'.os.trans h.os, h'.tape.trans h.tape, h'.output.trans h.output, Nat.le_trans h.size h'.size, fun b hb hbt => by rw [h'.block b (Nat.lt_of_lt_of_le hb h.size) hbt]; exact h.block b hb hbt⟩

theorem Mid.of {B T : Nat} {w w' : World} (hb : Below w.heap.size w w') : Mid B T w w' := ⟨hb.os, hb.tape, hb.output, hb.size, fun b h _ => hb.block b h⟩

theorem Mid.below {B T : Nat} {w w' : World} (h : Mid B T w w') (hB : B ≤ w.heap.size) : Below B w w' := ⟨h.os, h.tape, h.output, h.size, fun b hb => h.block b (Nat.lt_of_lt_of_le hb hB) (.inl hb)⟩
end Go.Proofs.YtakfnmhokijcoaaGreatDoor
