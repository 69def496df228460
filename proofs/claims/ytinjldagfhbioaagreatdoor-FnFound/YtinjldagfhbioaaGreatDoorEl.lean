/- Rows of elems (four cells each) of the call's own: what is known of them. -/
import Derived.Test.YtinjldagfhbioaaGreatDoorInts
namespace Go.Proofs.YtinjldagfhbioaaGreatDoor
open Go.RowKit

structure El where
  first : Int
  second : Int
  third : Int
  varies : Bool

def elC (e : El) : List Value := [.int .i64 e.first, .int .i64 e.second, .int .i64 e.third, .bool e.varies]
def elV (e : El) : Value := .agg #[.int .i64 e.first, .int .i64 e.second, .int .i64 e.third, .bool e.varies]
def elAll (es : List El) : List Value := es.flatMap elC

theorem elAll_len (es : List El) : (elAll es).length = es.length * 4 := by
  induction es with
  | nil => rfl
  | cons e es ih => show (elC e ++ elAll es).length = _; rw [List.length_append, ih, List.length_cons]; show 4 + _ = _; omega

theorem elAll_at (es : List El) (k i : Nat) (e : El) (h : es[k]? = some e) (hi : i < 4) : (elAll es)[k * 4 + i]? = (elC e)[i]? := by
  induction es generalizing k with
  | nil => simp at h
  | cons x es ih =>
    show (elC x ++ elAll es)[k * 4 + i]? = _
    cases k with
    | zero =>
      simp at h; subst h
      rw [Nat.zero_mul, Nat.zero_add, List.getElem?_append_left (by show i < 4; exact hi)]
    | succ k =>
      have h' : es[k]? = some e := by simpa using h
      rw [List.getElem?_append_right (by show 4 ≤ _; omega)]
      have e4 : (k + 1) * 4 + i - (elC x).length = k * 4 + i := by show (k + 1) * 4 + i - 4 = _; omega
      rw [e4]; exact ih k h'

theorem elAll_set (es : List El) (k : Nat) (e : El) (h : k < es.length) : elAll (es.set k e) = ((((elAll es).set (k * 4) (.int .i64 e.first)).set (k * 4 + 1) (.int .i64 e.second)).set (k * 4 + 2) (.int .i64 e.third)).set (k * 4 + 3) (.bool e.varies) := by
  induction es generalizing k with
  | nil => simp at h
  | cons x es ih =>
    cases k with
    | zero => rfl
    | succ k =>
      have h' : k < es.length := by simpa using h
      show elC x ++ elAll (es.set k e) = ((((elC x ++ elAll es).set ((k + 1) * 4) _).set ((k + 1) * 4 + 1) _).set ((k + 1) * 4 + 2) _).set ((k + 1) * 4 + 3) _
      rw [ih k h', List.set_append_right _ _ (by show 4 ≤ _; omega), List.set_append_right _ _ (by show 4 ≤ _; omega), List.set_append_right _ _ (by show 4 ≤ _; omega), List.set_append_right _ _ (by show 4 ≤ _; omega)]
      have q0 : (k + 1) * 4 - (elC x).length = k * 4 := by show (k + 1) * 4 - 4 = _; omega
      have q1 : (k + 1) * 4 + 1 - (elC x).length = k * 4 + 1 := by show (k + 1) * 4 + 1 - 4 = _; omega
      have q2 : (k + 1) * 4 + 2 - (elC x).length = k * 4 + 2 := by show (k + 1) * 4 + 2 - 4 = _; omega
      have q3 : (k + 1) * 4 + 3 - (elC x).length = k * 4 + 3 := by show (k + 1) * 4 + 3 - 4 = _; omega
      rw [q0, q1, q2, q3]

/-- A row of elems of the call's own. -/
def Elems (w : World) (B : Nat) (v : Value) (es : List El) : Prop := w.ownsRow B 72 4 v es.length (elAll es)

theorem Elems.form {w : World} {B : Nat} {v : Value} {es : List El} (h : Elems w B v es) : (v = .slice none 0 0 ∧ es = []) ∨ ∃ g cap, v = .slice (some ⟨g, 0, none⟩) es.length cap ∧ es.length ≤ cap ∧ cap ≤ maxLen := by
  rcases h.2 with ⟨a, b⟩ | ⟨g, cap, cur, a, b, c, d, e, _⟩
  · exact .inl ⟨a, List.eq_nil_of_length_eq_zero b⟩
  · exact .inr ⟨g, cap, a, d, e⟩

theorem Elems.cells {w : World} {B g cap : Nat} {es : List El} (h : Elems w B (.slice (some ⟨g, 0, none⟩) es.length cap) es) (k : Nat) (e : El) (hk : es[k]? = some e) :
    w.cell? ⟨g, k * 4, none⟩ = some (.int .i64 e.first) ∧ w.cell? ⟨g, k * 4 + 1, none⟩ = some (.int .i64 e.second) ∧ w.cell? ⟨g, k * 4 + 2, none⟩ = some (.int .i64 e.third) ∧ w.cell? ⟨g, k * 4 + 3, none⟩ = some (.bool e.varies) := by
  have hlt := (List.getElem?_eq_some_iff.1 hk).1
  have at' : ∀ i, i < 4 → w.cell? ⟨g, k * 4 + i, none⟩ = (elC e)[i]? := fun i hi => by
    rw [World.ownsRow.cellAt h (k * 4 + i) (by omega), elAll_at es k i e hk hi]
  exact ⟨at' 0 (by omega), at' 1 (by omega), at' 2 (by omega), at' 3 (by omega)⟩

theorem Elems.below {w w' : World} {B : Nat} {v : Value} {es : List El} (h : Elems w B v es) (hb : Below w.heap.size w w') : Elems w' B v es :=
  World.ownsRow.kept h (row := none) ⟨hb.os, hb.tape, hb.output, hb.size, fun k hk _ => hb.block k hk⟩ (by cases h : v.ownBlock <;> simp)
end Go.Proofs.YtinjldagfhbioaaGreatDoor
