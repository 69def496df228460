/- Rows of an index (three texts, three cells each) of the call's own: what is known of them. -/
import Derived.Test.YtbgomhgohphglaaDoorInts
namespace Go.Proofs.YtbgomhgohphglaaDoor
open Go.RowKit

structure Rw where
  key : ByteArray
  text : ByteArray
  val : ByteArray

def rwC (x : Rw) : List Value := [.string x.key, .string x.text, .string x.val]
def rwV (x : Rw) : Value := .agg #[.string x.key, .string x.text, .string x.val]
def rwAll (l : List Rw) : List Value := l.flatMap rwC
def rwZ : Rw := ⟨⟨#[]⟩, ⟨#[]⟩, ⟨#[]⟩⟩

instance : Inhabited Rw := ⟨rwZ⟩

theorem rwAll_len (l : List Rw) : (rwAll l).length = l.length * 3 := by
  induction l with
  | nil => rfl
  | cons e es ih => show (rwC e ++ rwAll es).length = _; rw [List.length_append, ih, List.length_cons]; show 3 + _ = _; omega

theorem rwAll_append (a b : List Rw) : rwAll (a ++ b) = rwAll a ++ rwAll b := by simp [rwAll]

theorem rwAll_at (es : List Rw) (k i : Nat) (e : Rw) (h : es[k]? = some e) (hi : i < 3) : (rwAll es)[k * 3 + i]? = (rwC e)[i]? := by
  induction es generalizing k with
  | nil => simp at h
  | cons x es ih =>
    show (rwC x ++ rwAll es)[k * 3 + i]? = _
    cases k with
    | zero =>
      simp at h; subst h
      rw [Nat.zero_mul, Nat.zero_add, List.getElem?_append_left (by show i < 3; exact hi)]
    | succ k =>
      have h' : es[k]? = some e := by simpa using h
      rw [List.getElem?_append_right (by show 3 ≤ _; omega)]
      have e4 : (k + 1) * 3 + i - (rwC x).length = k * 3 + i := by show (k + 1) * 3 + i - 3 = _; omega
      rw [e4]; exact ih k h'

theorem rwAll_set (es : List Rw) (k : Nat) (e : Rw) (h : k < es.length) : rwAll (es.set k e) = (((rwAll es).set (k * 3) (.string e.key)).set (k * 3 + 1) (.string e.text)).set (k * 3 + 2) (.string e.val) := by
  induction es generalizing k with
  | nil => simp at h
  | cons x es ih =>
    cases k with
    | zero => rfl
    | succ k =>
      have h' : k < es.length := by simpa using h
      show rwC x ++ rwAll (es.set k e) = (((rwC x ++ rwAll es).set ((k + 1) * 3) _).set ((k + 1) * 3 + 1) _).set ((k + 1) * 3 + 2) _
      rw [ih k h', List.set_append_right _ _ (by show 3 ≤ _; omega), List.set_append_right _ _ (by show 3 ≤ _; omega), List.set_append_right _ _ (by show 3 ≤ _; omega)]
      have q0 : (k + 1) * 3 - (rwC x).length = k * 3 := by show (k + 1) * 3 - 3 = _; omega
      have q1 : (k + 1) * 3 + 1 - (rwC x).length = k * 3 + 1 := by show (k + 1) * 3 + 1 - 3 = _; omega
      have q2 : (k + 1) * 3 + 2 - (rwC x).length = k * 3 + 2 := by show (k + 1) * 3 + 2 - 3 = _; omega
      rw [q0, q1, q2]

/-- Rows of the call's own. -/
def Rws (w : World) (B : Nat) (v : Value) (l : List Rw) : Prop := w.ownsRow B 32 3 v l.length (rwAll l)

theorem Rws.form {w : World} {B : Nat} {v : Value} {es : List Rw} (h : Rws w B v es) : (v = .slice none 0 0 ∧ es = []) ∨ ∃ g cap, v = .slice (some ⟨g, 0, none⟩) es.length cap ∧ es.length ≤ cap ∧ cap ≤ maxLen := by
  rcases h.2 with ⟨a, b⟩ | ⟨g, cap, cur, a, b, c, d, e, _⟩
  · exact .inl ⟨a, List.eq_nil_of_length_eq_zero b⟩
  · exact .inr ⟨g, cap, a, d, e⟩

theorem Rws.cells {w : World} {B g cap : Nat} {es : List Rw} (h : Rws w B (.slice (some ⟨g, 0, none⟩) es.length cap) es) (k : Nat) (e : Rw) (hk : es[k]? = some e) :
    w.cell? ⟨g, k * 3, none⟩ = some (.string e.key) ∧ w.cell? ⟨g, k * 3 + 1, none⟩ = some (.string e.text) ∧ w.cell? ⟨g, k * 3 + 2, none⟩ = some (.string e.val) := by
  have hlt := (List.getElem?_eq_some_iff.1 hk).1
  have at' : ∀ i, i < 3 → w.cell? ⟨g, k * 3 + i, none⟩ = (rwC e)[i]? := fun i hi => by
    rw [World.ownsRow.cellAt h (k * 3 + i) (by omega), rwAll_at es k i e hk hi]
  exact ⟨at' 0 (by omega), at' 1 (by omega), at' 2 (by omega)⟩

theorem Rws.below {w w' : World} {B : Nat} {v : Value} {es : List Rw} (h : Rws w B v es) (hb : Below w.heap.size w w') : Rws w' B v es :=
  World.ownsRow.kept h (row := none) ⟨hb.os, hb.tape, hb.output, hb.size, fun k hk _ => hb.block k hk⟩ (by cases h : v.ownBlock <;> simp)

/-- Rows wherever they lie: a slice of them. -/
def SlRw (w : World) (a : Option Addr) (l : List Rw) : Prop :=
  l = [] ∨ ∃ b o, a = some ⟨b, o, none⟩ ∧ ∀ (k : Nat) (e : Rw), l[k]? = some e → w.cell? ⟨b, o + k * 3, none⟩ = some (.string e.key) ∧ w.cell? ⟨b, o + k * 3 + 1, none⟩ = some (.string e.text) ∧ w.cell? ⟨b, o + k * 3 + 2, none⟩ = some (.string e.val)

theorem rw_cell_lt {w : World} {b o : Nat} {v : Value} (h : w.cell? ⟨b, o, none⟩ = some v) : b < w.heap.size := by
  apply Classical.byContradiction
  intro hn
  have : w.heap[b]? = none := by simp; omega
  simp [World.cell?, this] at h

theorem SlRw.below {w w' : World} {B : Nat} {a : Option Addr} {l : List Rw} (h : SlRw w a l) (hb : Below B w w') (hB : w.heap.size ≤ B) : SlRw w' a l := by
  rcases h with rfl | ⟨b, o, rfl, h⟩
  · exact .inl rfl
  · refine .inr ⟨b, o, rfl, fun k e he => ?_⟩
    obtain ⟨c0, c1, c2⟩ := h k e he
    have hl := Nat.lt_of_lt_of_le (rw_cell_lt c0) hB
    exact ⟨by rw [hb.cell hl]; exact c0, by rw [hb.cell hl]; exact c1, by rw [hb.cell hl]; exact c2⟩

theorem Rws.sl {w : World} {B g cap : Nat} {l : List Rw} (h : Rws w B (.slice (some ⟨g, 0, none⟩) l.length cap) l) : SlRw w (some ⟨g, 0, none⟩) l :=
  .inr ⟨g, 0, rfl, fun k e he => by simpa using h.cells k e he⟩

theorem SlRw.drop {w : World} {b o : Nat} {l : List Rw} (h : SlRw w (some ⟨b, o, none⟩) l) (n : Nat) : SlRw w (some ⟨b, o + n * 3, none⟩) (l.drop n) := by
  rcases h with rfl | ⟨b', o', hb, h⟩
  · exact .inl (by simp)
  · cases hb
    refine .inr ⟨b, o + n * 3, rfl, fun k e he => ?_⟩
    rw [List.getElem?_drop] at he
    have := h (n + k) e he
    rw [show o + (n + k) * 3 = o + n * 3 + k * 3 by omega] at this
    exact this

theorem SlRw.take {w : World} {a : Option Addr} {l : List Rw} (h : SlRw w a l) (n : Nat) : SlRw w a (l.take n) := by
  rcases h with rfl | ⟨b', o', hb, h⟩
  · exact .inl (by simp)
  · refine .inr ⟨b', o', hb, fun k e he => h k e ?_⟩
    rw [List.getElem?_take] at he
    split at he
    · exact he
    · cases he

theorem rw_drop {l : List Rw} {k : Nat} {x : Rw} (h : l[k]? = some x) : l.drop k = x :: l.drop (k + 1) := by
  obtain ⟨hk, rfl⟩ := List.getElem?_eq_some_iff.1 h
  exact List.drop_eq_getElem_cons hk
end Go.Proofs.YtbgomhgohphglaaDoor
