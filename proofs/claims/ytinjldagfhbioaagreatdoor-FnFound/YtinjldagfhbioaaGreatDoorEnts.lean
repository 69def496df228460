/- Rows of entries (a list of runes and an elem: five cells each) of the call's own: what is known of them. -/
import Derived.Test.YtinjldagfhbioaaGreatDoorEl
namespace Go.Proofs.YtinjldagfhbioaaGreatDoor
open Go.RowKit

structure Ent where
  runes : List Int
  el : El

def entC (x : Value) (e : El) : List Value := [x, .int .i64 e.first, .int .i64 e.second, .int .i64 e.third, .bool e.varies]
def entV (x : Value) (e : El) : Value := .agg #[x, .int .i64 e.first, .int .i64 e.second, .int .i64 e.third, .bool e.varies]
/-- The cells of a row of entries, the lists' values beside. -/
def entAll : List Value → List Ent → List Value
  | x :: xs, e :: es => entC x e.el ++ entAll xs es
  | _, _ => []

theorem entAll_len (xs : List Value) (es : List Ent) (h : xs.length = es.length) : (entAll xs es).length = es.length * 5 := by
  induction es generalizing xs with
  | nil => cases xs with
    | nil => rfl
    | cons x xs => simp at h
  | cons e es ih => cases xs with
    | nil => simp at h
    | cons x xs =>
      show (entC x e.el ++ entAll xs es).length = _
      rw [List.length_append, ih xs (by simpa using h), List.length_cons]
      show 5 + _ = _
      omega

theorem entAll_at (xs : List Value) (es : List Ent) (k i : Nat) (x : Value) (e : Ent) (hx : xs[k]? = some x) (he : es[k]? = some e) (hi : i < 5) : (entAll xs es)[k * 5 + i]? = (entC x e.el)[i]? := by
  induction es generalizing xs k with
  | nil => simp at he
  | cons e' es ih => cases xs with
    | nil => simp at hx
    | cons x' xs =>
      show (entC x' e'.el ++ entAll xs es)[k * 5 + i]? = _
      cases k with
      | zero =>
        simp at hx he
        subst hx
        subst he
        rw [Nat.zero_mul, Nat.zero_add, List.getElem?_append_left (by show i < 5; exact hi)]
      | succ k =>
        rw [List.getElem?_append_right (by show 5 ≤ _; omega)]
        have e5 : (k + 1) * 5 + i - (entC x' e'.el).length = k * 5 + i := by show (k + 1) * 5 + i - 5 = _; omega
        rw [e5]
        exact ih xs k (by simpa using hx) (by simpa using he)

/-- A row of entries of the call's own. -/
def Ents (w : World) (B : Nat) (v : Value) (es : List Ent) : Prop :=
  ∃ xs : List Value, xs.length = es.length ∧ w.ownsRow B 74 5 v es.length (entAll xs es) ∧ ∀ (k : Nat) (e : Ent), es[k]? = some e → ∃ x, xs[k]? = some x ∧ Ints w B x e.runes

theorem Ents.form {w : World} {B : Nat} {v : Value} {es : List Ent} (h : Ents w B v es) : (v = .slice none 0 0 ∧ es = []) ∨ ∃ g cap, v = .slice (some ⟨g, 0, none⟩) es.length cap ∧ es.length ≤ cap ∧ cap ≤ maxLen ∧ g < w.heap.size ∧ B ≤ g := by
  obtain ⟨xs, _, h1, _⟩ := h
  have hl := World.ownsRow.lt h1
  rcases h1.2 with ⟨a, b⟩ | ⟨g, cap, cur, rfl, b, c, d, e, _⟩
  · exact .inl ⟨a, List.eq_nil_of_length_eq_zero b⟩
  · exact .inr ⟨g, cap, rfl, d, e, (hl g rfl).2, (hl g rfl).1⟩

theorem Ents.cells {w : World} {B g cap : Nat} {es : List Ent} (h : Ents w B (.slice (some ⟨g, 0, none⟩) es.length cap) es) (k : Nat) (e : Ent) (hk : es[k]? = some e) :
    ∃ x, Ints w B x e.runes ∧ w.cell? ⟨g, k * 5, none⟩ = some x ∧ w.cell? ⟨g, k * 5 + 1, none⟩ = some (.int .i64 e.el.first) ∧ w.cell? ⟨g, k * 5 + 2, none⟩ = some (.int .i64 e.el.second) ∧ w.cell? ⟨g, k * 5 + 3, none⟩ = some (.int .i64 e.el.third) ∧ w.cell? ⟨g, k * 5 + 4, none⟩ = some (.bool e.el.varies) := by
  obtain ⟨xs, hl, h1, h2⟩ := h
  obtain ⟨x, hx, hI⟩ := h2 k e hk
  have hlt := (List.getElem?_eq_some_iff.1 hk).1
  have at' : ∀ i, i < 5 → w.cell? ⟨g, k * 5 + i, none⟩ = (entC x e.el)[i]? := fun i hi => by
    rw [World.ownsRow.cellAt h1 (k * 5 + i) (by omega), entAll_at xs es k i x e hx hk hi]
  exact ⟨x, hI, at' 0 (by omega), at' 1 (by omega), at' 2 (by omega), at' 3 (by omega), at' 4 (by omega)⟩

theorem Ents.below {w w' : World} {B : Nat} {v : Value} {es : List Ent} (h : Ents w B v es) (hb : Below w.heap.size w w') : Ents w' B v es := by
  obtain ⟨xs, hl, h1, h2⟩ := h
  refine ⟨xs, hl, World.ownsRow.kept h1 (row := none) ⟨hb.os, hb.tape, hb.output, hb.size, fun k hk _ => hb.block k hk⟩ (by cases h : v.ownBlock <;> simp), fun k e he => ?_⟩
  obtain ⟨x, hx, hI⟩ := h2 k e he
  exact ⟨x, hx, hI.below hb⟩

theorem Ents.nil (w : World) (B : Nat) : Ents w B (.slice none 0 0) [] := ⟨[], rfl, ⟨rfl, .inl ⟨rfl, rfl⟩⟩, fun k e h => by simp at h⟩
end Go.Proofs.YtinjldagfhbioaaGreatDoor
