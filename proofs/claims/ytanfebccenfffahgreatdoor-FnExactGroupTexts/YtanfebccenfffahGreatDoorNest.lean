/- Rows of rows of texts in memory. -/
import Derived.Test.YtanfebccenfffahGreatDoorMarkR0
import Derived.Test.YtanfebccenfffahGreatDoorStrs
namespace Go.Proofs.YtanfebccenfffahGreatDoor
open Go.RowKit

/-- A row of rows of texts; all their blocks lie from lo on, ahead of hi, each its own. -/
structure Nest (w : World) (lo hi : Nat) (v : Value) (gs : List (List ByteArray)) (vs : List Value) : Prop where
  top : hi ≤ w.heap.size
  len : vs.length = gs.length
  row : w.ownsRow lo 25 1 v gs.length vs
  rlt : ∀ g, v.ownBlock = some g → g < hi
  ins : ∀ (k : Nat) (g : List ByteArray), gs[k]? = some g → ∃ x, vs[k]? = some x ∧ Strs w lo x g ∧ ∀ b, x.ownBlock = some b → b < hi
  two : ∀ (i j : Nat) (x y : Value), i ≠ j → vs[i]? = some x → vs[j]? = some y → x.ownBlock = none ∨ x.ownBlock ≠ y.ownBlock

theorem row_same {w w' : World} {B e size n : Nat} {v : Value} {xs : List Value} (h : w.ownsRow B e size v n xs) (hb : ∀ g, v.ownBlock = some g → w'.heap[g]? = w.heap[g]?) : w'.ownsRow B e size v n xs := by
  refine ⟨h.1, ?_⟩
  rcases h.2 with h2 | ⟨g, cap, cur, h1, h2, h3, h4⟩
  · exact .inl h2
  · exact .inr ⟨g, cap, cur, h1, h2, by rw [hb g (by rw [h1]; rfl)]; exact h3, h4⟩

/-- Nothing between lo and hi has changed. -/
theorem Nest.same {w w' : World} {lo hi : Nat} {v : Value} {gs : List (List ByteArray)} {vs : List Value} (h : Nest w lo hi v gs vs) (hs : w.heap.size ≤ w'.heap.size) (hb : ∀ g, lo ≤ g → g < hi → w'.heap[g]? = w.heap[g]?) : Nest w' lo hi v gs vs := by
  refine ⟨Nat.le_trans h.top hs, h.len, row_same h.row (fun g hg => hb g (World.ownsRow.lt h.row g hg).1 (h.rlt g hg)), h.rlt, fun k g hg => ?_, h.two⟩
  obtain ⟨x, hx, hI, hl⟩ := h.ins k g hg
  exact ⟨x, hx, row_same hI (fun b hb' => hb b (World.ownsRow.lt hI b hb').1 (hl b hb')), hl⟩

theorem Nest.below {w w' : World} {lo hi : Nat} {v : Value} {gs : List (List ByteArray)} {vs : List Value} (h : Nest w lo hi v gs vs) (hb : Below w.heap.size w w') : Nest w' lo hi v gs vs :=
  h.same hb.size (fun g _ hg => hb.block g (Nat.lt_of_lt_of_le hg h.top))

theorem Nest.mid {w w' : World} {lo hi B T : Nat} {v : Value} {gs : List (List ByteArray)} {vs : List Value} (h : Nest w lo hi v gs vs) (hm : Mid B T w w') (ha : hi ≤ B ∨ T ≤ lo) : Nest w' lo hi v gs vs :=
  h.same hm.size (fun g h1 h2 => hm.block g (Nat.lt_of_lt_of_le h2 h.top) (by omega))

theorem Nest.grown {w w' : World} {lo hi : Nat} {v : Value} {gs : List (List ByteArray)} {vs : List Value} {r : Option Nat} (h : Nest w lo hi v gs vs) (hg : w.grownBy w' r) (hr : ∀ g, r = some g → g < lo ∨ hi ≤ g) : Nest w' lo hi v gs vs :=
  h.same hg.size (fun g h1 h2 => hg.block g (Nat.lt_of_lt_of_le h2 h.top) (fun e => by have := hr g e.symm; omega))

/-- Counted up to a later block. -/
theorem Nest.high {w : World} {lo hi hi' : Nat} {v : Value} {gs : List (List ByteArray)} {vs : List Value} (h : Nest w lo hi v gs vs) (h1 : hi ≤ hi') (h2 : hi' ≤ w.heap.size) : Nest w lo hi' v gs vs :=
  ⟨h2, h.len, h.row, fun g hg => Nat.lt_of_lt_of_le (h.rlt g hg) h1, fun k g hg => by obtain ⟨x, a, b, c⟩ := h.ins k g hg; exact ⟨x, a, b, fun q hq => Nat.lt_of_lt_of_le (c q hq) h1⟩, h.two⟩

theorem Nest.low {w : World} {lo lo' hi : Nat} {v : Value} {gs : List (List ByteArray)} {vs : List Value} (h : Nest w lo hi v gs vs) (h1 : lo' ≤ lo) : Nest w lo' hi v gs vs := by
  have lw : ∀ {e size n : Nat} {p : Value} {xs : List Value}, w.ownsRow lo e size p n xs → w.ownsRow lo' e size p n xs := fun {e size n p xs} q => by
    refine ⟨q.1, ?_⟩
    rcases q.2 with q2 | ⟨g, cap, cur, a, b, c⟩
    · exact .inl q2
    · exact .inr ⟨g, cap, cur, a, by omega, c⟩
  exact ⟨h.top, h.len, lw h.row, h.rlt, fun k g hg => by obtain ⟨x, a, b, c⟩ := h.ins k g hg; exact ⟨x, a, lw b, c⟩, h.two⟩

theorem Nest.nil (w : World) (lo : Nat) : Nest w lo w.heap.size (.slice none 0 0) [] [] :=
  ⟨Nat.le_refl _, rfl, ⟨rfl, .inl ⟨rfl, rfl⟩⟩, fun g hg => (by cases hg), fun k g hg => by simp at hg, fun i j x y _ hx => by simp at hx⟩

/-- A row of rows is none of the rows of texts. -/
theorem Nest.apart {w : World} {lo hi : Nat} {v : Value} {gs : List (List ByteArray)} {vs : List Value} (h : Nest w lo hi v gs vs) {B n : Nat} {x : Value} {xs : List Value} (hx : w.ownsRow B 9 1 x n xs) : v.ownBlock = none ∨ v.ownBlock ≠ x.ownBlock := by
  rcases h.row.2 with ⟨rfl, _⟩ | ⟨g, cap, cur, rfl, _, hg, _⟩
  · exact .inl rfl
  · refine .inr fun c => ?_
    rcases hx.2 with ⟨rfl, _⟩ | ⟨g', cap', cur', rfl, _, hg', _⟩
    · cases c
    · have : g = g' := Option.some.inj c
      subst this
      rw [hg] at hg'
      injection hg' with q1
      injection q1 with _ q2
      exact absurd q2 (by decide)

theorem Nest.form {w : World} {lo hi : Nat} {v : Value} {gs : List (List ByteArray)} {vs : List Value} (h : Nest w lo hi v gs vs) : ∃ a c, v = .slice a gs.length c ∧ ∀ (k : Nat) (x : Value), vs[k]? = some x → ∃ g, a = some ⟨g, 0, none⟩ ∧ lo ≤ g ∧ g < hi ∧ w.cell? ⟨g, k, none⟩ = some x ∧ ∀ j, w.frozen? ⟨g, j, none⟩ = false := by
  rcases h.row.2 with ⟨rfl, hn⟩ | ⟨g, cap, cur, rfl, hB, hg, h1, h2, h3, h4⟩
  · have : gs = [] := List.eq_nil_of_length_eq_zero hn
    subst this
    exact ⟨_, _, rfl, fun k x hx => by have := (List.getElem?_eq_some_iff.1 hx).1; rw [h.len] at this; simp at this⟩
  · refine ⟨_, _, rfl, fun k x hx => ⟨g, rfl, hB, h.rlt g rfl, ?_, fun j => by simp [World.frozen?, hg]⟩⟩
    have hk := (List.getElem?_eq_some_iff.1 hx).1
    rw [h.len] at hk
    have hc : cur[k]? = some x := by
      rw [← Array.getElem?_toList]
      rw [← h4, List.getElem?_take_of_lt (by omega)] at hx
      exact hx
    simp [World.cell?, hg, hc]

/-- One inner row has changed. -/
theorem Nest.inner {w w' : World} {lo hi : Nat} {v : Value} {gs : List (List ByteArray)} {vs : List Value} (h : Nest w lo hi v gs vs) {k : Nat} {x : Value} {g g' : List ByteArray} (hx : vs[k]? = some x) (hk : gs[k]? = some g) (hg : w.grownBy w' x.ownBlock) (hI : Strs w' lo x g') : Nest w' lo hi v (gs.set k g') vs := by
  obtain ⟨x', hx', hI0, hlt0⟩ := h.ins k g hk
  rw [hx] at hx'
  obtain rfl : x = x' := Option.some.inj hx'
  refine ⟨Nat.le_trans h.top hg.size, by simpa using h.len, ?_, h.rlt, fun j q hq => ?_, h.two⟩
  · rw [List.length_set]
    exact World.ownsRow.kept h.row hg (h.apart hI0)
  · by_cases c : k = j
    · subst c
      rw [List.getElem?_set_self (List.getElem?_eq_some_iff.1 hk).1] at hq
      obtain rfl := Option.some.inj hq
      exact ⟨x, hx, hI, hlt0⟩
    · rw [List.getElem?_set_ne c] at hq
      obtain ⟨y, hy, hJ, hlt⟩ := h.ins j q hq
      exact ⟨y, hy, World.ownsRow.kept hJ hg (h.two j k y x (fun e => c e.symm) hy hx), hlt⟩
end Go.Proofs.YtanfebccenfffahGreatDoor
