/- The elem of runes by the rules, without memory; blocks of rules and of a result. -/
import Derived.Test.YtinjldagfhbioaaGreatDoorSRule2
import Derived.Test.YtinjldagfhbioaaGreatDoorSBase
namespace Go.Proofs.YtinjldagfhbioaaGreatDoor
open Go.RowKit

/-- What one rune weighs if it is a whole elem with a first weight. -/
def one3 : List El → Option El
  | [e] => if e.first = 0 then none else some e
  | _ => none

/-- The elem of these runes. -/
def elemE (es : List Ent) (l : List Int) : Option El :=
  if 0 ≤ atE es l then (es[(atE es l).toNat]?).map (·.el)
  else match l with
    | [r] => one3 (base r)
    | _ => none

def elOf (o : Option El) : El := o.getD ⟨0, 0, 0, false⟩

theorem atE_cases (es : List Ent) (l : List Int) : atE es l = -1 ∨ ∃ (i : Nat) (e : Ent), es[i]? = some e ∧ atE es l = (i : Int) := by
  unfold atE
  cases h : es.findIdx? (fun e => decide (e.runes = l)) with
  | none => exact .inl rfl
  | some i =>
    obtain ⟨hi, _⟩ := List.findIdx?_eq_some_iff_getElem.1 h
    exact .inr ⟨i, es[i], List.getElem?_eq_getElem hi, rfl⟩

theorem elemE_hit {es : List Ent} {l : List Int} {i : Nat} {e : Ent} (he : es[i]? = some e) (h : atE es l = (i : Int)) : elemE es l = some e.el := by
  unfold elemE
  rw [h, if_pos (by omega), Int.toNat_natCast, he]; rfl

theorem elemE_base {es : List Ent} {r : Int} (h : atE es [r] = -1) : elemE es [r] = one3 (base r) := by
  unfold elemE
  rw [h, if_neg (by omega)]

theorem elemE_far {es : List Ent} {l : List Int} (h : atE es l = -1) (hl : l.length ≠ 1) : elemE es l = none := by
  unfold elemE
  rw [h, if_neg (by omega)]
  match l, hl with
  | [], _ => rfl
  | [_], hl => exact absurd rfl hl
  | _ :: _ :: _, _ => rfl

def elRes (o : Option El) : Value := .tuple #[elV (elOf o), .bool o.isSome]

theorem ret_e {o : Option El} {e : El} (h : o = some e) : Ending.returned (.tuple #[.agg #[.int .i64 e.first, .int .i64 e.second, .int .i64 e.third, .bool e.varies], .bool true]) = .returned (elRes o) := by rw [h]; rfl
theorem ret_e0 {o : Option El} (h : o = none) : Ending.returned (.tuple #[.agg #[.int .i64 0, .int .i64 0, .int .i64 0, .bool false], .bool false]) = .returned (elRes o) := by rw [h]; rfl

/-- The block of the rules and the result's, still zero. -/
def Box4 (u : World) (b1 b2 : Nat) (v : Value) (sh : Bool) (lv : Int) : Prop := u.heap[b1]? = some (.cells #[v, .bool sh, .int .i64 lv] 25) ∧ u.heap[b2]? = some (.cells #[.int .i64 0, .int .i64 0, .int .i64 0, .bool false] 72)

theorem Box4.facts {u : World} {b1 b2 : Nat} {v : Value} {sh : Bool} {lv : Int} (h : Box4 u b1 b2 v sh lv) : (b1 < u.heap.size ∧ b2 < u.heap.size) ∧ (u.cell? ⟨b1, 0, none⟩ = some v ∧ u.cell? ⟨b1, 1, none⟩ = some (.bool sh) ∧ u.cell? ⟨b1, 2, none⟩ = some (.int .i64 lv)) ∧ (u.cell? ⟨b2, 0, none⟩ = some (.int .i64 0) ∧ u.cell? ⟨b2, 1, none⟩ = some (.int .i64 0) ∧ u.cell? ⟨b2, 2, none⟩ = some (.int .i64 0) ∧ u.cell? ⟨b2, 3, none⟩ = some (.bool false)) ∧ ∀ j, u.frozen? ⟨b2, j, none⟩ = false :=
  ⟨⟨(Array.getElem?_eq_some_iff.1 h.1).1, (Array.getElem?_eq_some_iff.1 h.2).1⟩, ⟨cell_of_row _ _ 0 _ _ _ h.1, cell_of_row _ _ 1 _ _ _ h.1, cell_of_row _ _ 2 _ _ _ h.1⟩, ⟨cell_of_row _ _ 0 _ _ _ h.2, cell_of_row _ _ 1 _ _ _ h.2, cell_of_row _ _ 2 _ _ _ h.2, cell_of_row _ _ 3 _ _ _ h.2⟩, fun j => by simp [World.frozen?, h.2]⟩

theorem Box4.below {u u' : World} {b1 b2 : Nat} {v : Value} {sh : Bool} {lv : Int} (h : Box4 u b1 b2 v sh lv) (hb : Below u.heap.size u u') : Box4 u' b1 b2 v sh lv := by
  have hf := h.facts.1
  exact ⟨by rw [hb.block _ hf.1]; exact h.1, by rw [hb.block _ hf.2]; exact h.2⟩

theorem box4_new (w : World) (v : Value) (sh : Bool) (lv : Int) : Box4 ((w.alloc (.cells #[v, .bool sh, .int .i64 lv] 25)).alloc (.cells #[.int .i64 0, .int .i64 0, .int .i64 0, .bool false] 72)) w.heap.size (w.heap.size + 1) v sh lv :=
  ⟨by rw [Below.heap_alloc _ _ _ (by simp)]; exact heap_alloc_new w _, heap_alloc2_new w _ _⟩

theorem below_res4 {w wr : World} (h : Below w.heap.size w wr) (x y z t : Value) : Below w.heap.size w ((((wr.setCell ⟨w.heap.size + 1, 0, none⟩ x).setCell ⟨w.heap.size + 1, 1, none⟩ y).setCell ⟨w.heap.size + 1, 2, none⟩ z).setCell ⟨w.heap.size + 1, 3, none⟩ t) :=
  (((h.setCell (Nat.le_succ _) _).setCell (Nat.le_succ _) _).setCell (Nat.le_succ _) _).setCell (Nat.le_succ _) _
end Go.Proofs.YtinjldagfhbioaaGreatDoor
