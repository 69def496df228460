/- Rows of rows of Rows in memory. -/
import Derived.Test.YtbgomhgohphglaaDoorRw
namespace Go.Proofs.YtbgomhgohphglaaDoor
open Go.RowKit

/-- A row of rows of Rows; all their blocks lie from lo on, ahead of hi, each its own. -/
structure NestR (w : World) (lo hi : Nat) (v : Value) (gs : List (List Rw)) (vs : List Value) : Prop where
  top : hi ≤ w.heap.size
  len : vs.length = gs.length
  row : w.ownsRow lo 23 1 v gs.length vs
  rlt : ∀ g, v.ownBlock = some g → g < hi
  ins : ∀ (k : Nat) (g : List Rw), gs[k]? = some g → ∃ x, vs[k]? = some x ∧ Rws w lo x g ∧ ∀ b, x.ownBlock = some b → b < hi
  two : ∀ (i j : Nat) (x y : Value), i ≠ j → vs[i]? = some x → vs[j]? = some y → x.ownBlock = none ∨ x.ownBlock ≠ y.ownBlock

theorem rowR_same {w w' : World} {B e size n : Nat} {v : Value} {xs : List Value} (h : w.ownsRow B e size v n xs) (hb : ∀ g, v.ownBlock = some g → w'.heap[g]? = w.heap[g]?) : w'.ownsRow B e size v n xs := by
  refine ⟨h.1, ?_⟩
  rcases h.2 with h2 | ⟨g, cap, cur, h1, h2, h3, h4⟩
  · exact .inl h2
  · exact .inr ⟨g, cap, cur, h1, h2, by rw [hb g (by rw [h1]; rfl)]; exact h3, h4⟩

/-- Nothing between lo and hi has changed. -/
theorem NestR.same {w w' : World} {lo hi : Nat} {v : Value} {gs : List (List Rw)} {vs : List Value} (h : NestR w lo hi v gs vs) (hs : w.heap.size ≤ w'.heap.size) (hb : ∀ g, lo ≤ g → g < hi → w'.heap[g]? = w.heap[g]?) : NestR w' lo hi v gs vs := by
  refine ⟨Nat.le_trans h.top hs, h.len, rowR_same h.row (fun g hg => hb g (World.ownsRow.lt h.row g hg).1 (h.rlt g hg)), h.rlt, fun k g hg => ?_, h.two⟩
  obtain ⟨x, hx, hI, hl⟩ := h.ins k g hg
  exact ⟨x, hx, rowR_same hI (fun b hb' => hb b (World.ownsRow.lt hI b hb').1 (hl b hb')), hl⟩

theorem NestR.below {w w' : World} {lo hi : Nat} {v : Value} {gs : List (List Rw)} {vs : List Value} (h : NestR w lo hi v gs vs) (hb : Below w.heap.size w w') : NestR w' lo hi v gs vs :=
  h.same hb.size (fun g _ hg => hb.block g (Nat.lt_of_lt_of_le hg h.top))

theorem NestR.grown {w w' : World} {lo hi : Nat} {v : Value} {gs : List (List Rw)} {vs : List Value} {r : Option Nat} (h : NestR w lo hi v gs vs) (hg : w.grownBy w' r) (hr : ∀ g, r = some g → g < lo ∨ hi ≤ g) : NestR w' lo hi v gs vs :=
  h.same hg.size (fun g h1 h2 => hg.block g (Nat.lt_of_lt_of_le h2 h.top) (fun e => by have := hr g e.symm; omega))

/-- Counted up to a later block. -/
theorem NestR.high {w : World} {lo hi hi' : Nat} {v : Value} {gs : List (List Rw)} {vs : List Value} (h : NestR w lo hi v gs vs) (h1 : hi ≤ hi') (h2 : hi' ≤ w.heap.size) : NestR w lo hi' v gs vs :=
  ⟨h2, h.len, h.row, fun g hg => Nat.lt_of_lt_of_le (h.rlt g hg) h1, fun k g hg => by obtain ⟨x, a, b, c⟩ := h.ins k g hg; exact ⟨x, a, b, fun q hq => Nat.lt_of_lt_of_le (c q hq) h1⟩, h.two⟩

theorem NestR.low {w : World} {lo lo' hi : Nat} {v : Value} {gs : List (List Rw)} {vs : List Value} (h : NestR w lo hi v gs vs) (h1 : lo' ≤ lo) : NestR w lo' hi v gs vs := by
  have lw : ∀ {e size n : Nat} {p : Value} {xs : List Value}, w.ownsRow lo e size p n xs → w.ownsRow lo' e size p n xs := fun {e size n p xs} q => by
    refine ⟨q.1, ?_⟩
    rcases q.2 with q2 | ⟨g, cap, cur, a, b, c⟩
    · exact .inl q2
    · exact .inr ⟨g, cap, cur, a, by omega, c⟩
  exact ⟨h.top, h.len, lw h.row, h.rlt, fun k g hg => by obtain ⟨x, a, b, c⟩ := h.ins k g hg; exact ⟨x, a, lw b, c⟩, h.two⟩

theorem NestR.nil (w : World) (lo : Nat) : NestR w lo w.heap.size (.slice none 0 0) [] [] :=
  ⟨Nat.le_refl _, rfl, ⟨rfl, .inl ⟨rfl, rfl⟩⟩, fun g hg => (by cases hg), fun k g hg => by simp at hg, fun i j x y _ hx => by simp at hx⟩

/-- A row of rows is none of the rows of Rows. -/
theorem NestR.apart {w : World} {lo hi : Nat} {v : Value} {gs : List (List Rw)} {vs : List Value} (h : NestR w lo hi v gs vs) {B n : Nat} {x : Value} {xs : List Value} (hx : w.ownsRow B 32 3 x n xs) : v.ownBlock = none ∨ v.ownBlock ≠ x.ownBlock := by
  rcases h.row.2 with ⟨rfl, _⟩ | ⟨g, cap, cur, rfl, _, hg, _⟩
  · exact .inl rfl
  · refine .inr fun c => ?_
    rcases hx.2 with ⟨rfl, _⟩ | ⟨g', cap', cur', rfl, _, hg', _⟩
    · cases c
    · have : g = g' := Option.some.inj c
      subst this
      rw [hg] at hg'
      injection hg' with q1
      injection q1 with _ q2
      exact absurd q2 (by decide)

theorem NestR.form {w : World} {lo hi : Nat} {v : Value} {gs : List (List Rw)} {vs : List Value} (h : NestR w lo hi v gs vs) : ∃ a c, v = .slice a gs.length c ∧ ∀ (k : Nat) (x : Value), vs[k]? = some x → ∃ g, a = some ⟨g, 0, none⟩ ∧ lo ≤ g ∧ g < hi ∧ w.cell? ⟨g, k, none⟩ = some x ∧ ∀ j, w.frozen? ⟨g, j, none⟩ = false := by
  rcases h.row.2 with ⟨rfl, hn⟩ | ⟨g, cap, cur, rfl, hB, hg, h1, h2, h3, h4⟩
  · have : gs = [] := List.eq_nil_of_length_eq_zero hn
    subst this
    exact ⟨_, _, rfl, fun k x hx => by have := (List.getElem?_eq_some_iff.1 hx).1; rw [h.len] at this; simp at this⟩
  · refine ⟨_, _, rfl, fun k x hx => ⟨g, rfl, hB, h.rlt g rfl, ?_, fun j => by simp [World.frozen?, hg]⟩⟩
    have hk := (List.getElem?_eq_some_iff.1 hx).1
    rw [h.len] at hk
    have hc : cur[k]? = some x := by
      rw [← Array.getElem?_toList]
      rw [← h4, List.getElem?_take_of_lt (by omega)] at hx
      exact hx
    simp [World.cell?, hg, hc]

/-- One inner row has changed. -/
theorem NestR.inner {w w' : World} {lo hi : Nat} {v : Value} {gs : List (List Rw)} {vs : List Value} (h : NestR w lo hi v gs vs) {k : Nat} {x : Value} {g g' : List Rw} (hx : vs[k]? = some x) (hk : gs[k]? = some g) (hg : w.grownBy w' x.ownBlock) (hI : Rws w' lo x g') : NestR w' lo hi v (gs.set k g') vs := by
  obtain ⟨x', hx', hI0, hlt0⟩ := h.ins k g hk
  rw [hx] at hx'
  obtain rfl : x = x' := Option.some.inj hx'
  refine ⟨Nat.le_trans h.top hg.size, by simpa using h.len, ?_, h.rlt, fun j q hq => ?_, h.two⟩
  · rw [List.length_set]
    exact World.ownsRow.kept h.row hg (h.apart hI0)
  · by_cases c : k = j
    · subst c
      rw [List.getElem?_set_self (List.getElem?_eq_some_iff.1 hk).1] at hq
      obtain rfl := Option.some.inj hq
      exact ⟨x, hx, hI, hlt0⟩
    · rw [List.getElem?_set_ne c] at hq
      obtain ⟨y, hy, hJ, hlt⟩ := h.ins j q hq
      exact ⟨y, hy, World.ownsRow.kept hJ hg (h.two j k y x (fun e => c e.symm) hy hx), hlt⟩
theorem ownR_sym {v x : Value} (h : v.ownBlock = none ∨ v.ownBlock ≠ x.ownBlock) : x.ownBlock = none ∨ x.ownBlock ≠ v.ownBlock := by
  cases c : x.ownBlock with
  | none => exact .inl rfl
  | some j =>
    refine .inr fun e => ?_
    rcases h with h | h
    · rw [h] at e; cases e
    · exact h (by rw [c]; exact e.symm)

/-- A row of Rows behind the others. -/
theorem NestR.push {w u u' : World} {lo hi g cap : Nat} {v x0 : Value} {l0 : List Rw} {gs : List (List Rw)} {vs : List Value} (h : NestR w lo hi v gs vs) (hlo : lo ≤ w.heap.size) (hu : Below w.heap.size w u) (h0 : Rws u w.heap.size x0 l0) (hg : u.grownBy u' v.ownBlock) (ho : u'.ownsRow lo 23 1 (.slice (some ⟨g, 0, none⟩) (gs.length + 1) cap) (gs.length + 1) (vs ++ [x0])) :
    NestR u' lo u'.heap.size (.slice (some ⟨g, 0, none⟩) (gs.length + 1) cap) (gs ++ [l0]) (vs ++ [x0]) := by
  have h2 := h.below hu
  have hnew : ∀ b, x0.ownBlock = some b → w.heap.size ≤ b := fun b hb => (World.ownsRow.lt h0 b hb).1
  have hx0 : Rws u' lo x0 l0 := by
    have q := World.ownsRow.kept h0 hg (ownR_sym (h2.apart h0))
    refine ⟨q.1, ?_⟩
    rcases q.2 with q2 | ⟨g, cap, cur, a, b, c⟩
    · exact .inl q2
    · exact .inr ⟨g, cap, cur, a, Nat.le_trans hlo b, c⟩
  have hold : ∀ (i : Nat) (y : Value), vs[i]? = some y → ∀ b, y.ownBlock = some b → b < w.heap.size := fun i y hy b hb => by
    have hi' := (List.getElem?_eq_some_iff.1 hy).1
    obtain ⟨q, hq⟩ : ∃ q, gs[i]? = some q := ⟨_, List.getElem?_eq_getElem (by rw [← h.len]; exact hi')⟩
    obtain ⟨z, hz, _, hl⟩ := h.ins i q hq
    rw [hy] at hz
    obtain rfl := Option.some.inj hz
    exact Nat.lt_of_lt_of_le (hl b hb) h.top
  refine ⟨Nat.le_refl _, by simp [h.len], by simpa using ho, fun b hb => (World.ownsRow.lt ho b hb).2, fun k q hq => ?_, fun i j x y hij hx hy => ?_⟩
  · by_cases c : k < gs.length
    · rw [List.getElem?_append_left c] at hq
      obtain ⟨x, hx, hI, _⟩ := h2.ins k q hq
      have hI2 := World.ownsRow.kept hI hg (ownR_sym (h2.apart hI))
      exact ⟨x, by rw [List.getElem?_append_left (by rw [h.len]; exact c)]; exact hx, hI2, fun b hb => (World.ownsRow.lt hI2 b hb).2⟩
    · have hk := (List.getElem?_eq_some_iff.1 hq).1
      have : k = gs.length := by simp at hk; omega
      subst this
      simp at hq
      subst hq
      exact ⟨x0, by rw [← h.len]; simp, hx0, fun b hb => (World.ownsRow.lt hx0 b hb).2⟩
  · have lx := (List.getElem?_eq_some_iff.1 hx).1
    have ly := (List.getElem?_eq_some_iff.1 hy).1
    simp at lx ly
    by_cases ci : i < vs.length
    · rw [List.getElem?_append_left ci] at hx
      by_cases cj : j < vs.length
      · rw [List.getElem?_append_left cj] at hy
        exact h.two i j x y hij hx hy
      · have : j = vs.length := by omega
        subst this
        simp at hy
        subst hy
        cases e : x.ownBlock with
        | none => exact .inl rfl
        | some b =>
          refine .inr fun c => ?_
          have h3 := hold i x hx b e
          have h4 := hnew b c.symm
          omega
    · have : i = vs.length := by omega
      subst this
      simp at hx
      subst hx
      rw [List.getElem?_append_left (by omega)] at hy
      cases e : x0.ownBlock with
      | none => exact .inl rfl
      | some b =>
        refine .inr fun c => ?_
        have h3 := hold j y hy b c.symm
        have h4 := hnew b e
        omega

end Go.Proofs.YtbgomhgohphglaaDoor
