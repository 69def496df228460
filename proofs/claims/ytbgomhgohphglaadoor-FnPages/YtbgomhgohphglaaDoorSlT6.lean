/- Slices of Rows whose block is one of Rows, and rows of such slices. -/
import Derived.Test.YtbgomhgohphglaaDoorRwApp
import Derived.Test.YtbgomhgohphglaaDoorBkV
namespace Go.Proofs.YtbgomhgohphglaaDoor
open Go.RowKit

/-- A slice of Rows in a block of Rows. -/
def SlT (w : World) (a : Option Addr) (l : List Rw) : Prop :=
  l = [] ∨ ∃ b o, a = some ⟨b, o, none⟩ ∧ (∃ cs fr, w.heap[b]? = some (.cells cs 32 fr)) ∧ ∀ (k : Nat) (e : Rw), l[k]? = some e → w.cell? ⟨b, o + k * 3, none⟩ = some (.string e.key) ∧ w.cell? ⟨b, o + k * 3 + 1, none⟩ = some (.string e.text) ∧ w.cell? ⟨b, o + k * 3 + 2, none⟩ = some (.string e.val)

theorem SlT.sl {w : World} {a : Option Addr} {l : List Rw} (h : SlT w a l) : SlRw w a l := by
  rcases h with h | ⟨b, o, h1, _, h2⟩
  · exact .inl h
  · exact .inr ⟨b, o, h1, h2⟩

theorem Rws.slT {w : World} {B c : Nat} {a : Option Addr} {l : List Rw} (h : Rws w B (.slice a l.length c) l) : SlT w a l := by
  have hs := rws_sl h
  rcases hs with hs | ⟨b, o, rfl, hE⟩
  · exact .inl hs
  · rcases h.2 with ⟨q, _⟩ | ⟨g, cap, cur, q1, _, q3, _⟩
    · cases q
    · cases q1
      exact .inr ⟨_, _, rfl, ⟨_, _, q3⟩, hE⟩

theorem SlT.below {w w' : World} {B : Nat} {a : Option Addr} {l : List Rw} (h : SlT w a l) (hb : Below B w w') (hB : w.heap.size ≤ B) : SlT w' a l := by
  rcases h with h | ⟨b, o, rfl, ⟨cs, fr, ht⟩, h⟩
  · exact .inl h
  · have hlt := (Array.getElem?_eq_some_iff.1 ht).1
    refine .inr ⟨b, o, rfl, ⟨cs, fr, (hb.block b (Nat.lt_of_lt_of_le hlt hB)).trans ht⟩, fun k e he => ?_⟩
    obtain ⟨c0, c1, c2⟩ := h k e he
    have hl : b < B := Nat.lt_of_lt_of_le hlt hB
    exact ⟨(hb.cell hl).trans c0, (hb.cell hl).trans c1, (hb.cell hl).trans c2⟩

/-- A block of slices is changed. -/
theorem SlT.kept {w w' : World} {g : Nat} {a : Option Addr} {l : List Rw} {cs : Array Value} {fr : Nat × Nat} (h : SlT w a l) (hg : w.grownBy w' (some g)) (ht : w.heap[g]? = some (.cells cs 23 fr)) : SlT w' a l := by
  rcases h with h | ⟨b, o, rfl, ⟨cs', fr', hb⟩, h⟩
  · exact .inl h
  · have hlt := (Array.getElem?_eq_some_iff.1 hb).1
    have hne : some b ≠ some g := fun e => by
      rw [Option.some.inj e, ht] at hb
      injection hb with q1
      injection q1 with _ q2
      exact absurd q2 (by decide)
    have hbk := hg.block b hlt hne
    refine .inr ⟨b, o, rfl, ⟨cs', fr', hbk.trans hb⟩, fun k e he => ?_⟩
    obtain ⟨c0, c1, c2⟩ := h k e he
    exact ⟨(World.cell?_of_block hbk).trans c0, (World.cell?_of_block hbk).trans c1, (World.cell?_of_block hbk).trans c2⟩

theorem SlT.take {w : World} {a : Option Addr} {l : List Rw} (h : SlT w a l) (n : Nat) : SlT w a (l.take n) := by
  rcases h with rfl | ⟨b', o', hb, ht, h⟩
  · exact .inl (by simp)
  · refine .inr ⟨b', o', hb, ht, fun k e he => h k e ?_⟩
    rw [List.getElem?_take] at he
    split at he
    · exact he
    · cases he

theorem SlT.drop {w : World} {b o : Nat} {l : List Rw} (h : SlT w (some ⟨b, o, none⟩) l) (n : Nat) : SlT w (some ⟨b, o + n * 3, none⟩) (l.drop n) := by
  rcases h with rfl | ⟨b', o', hb, ht, h⟩
  · exact .inl (by simp)
  · cases hb
    refine .inr ⟨b, o + n * 3, rfl, ht, fun k e he => ?_⟩
    rw [List.getElem?_drop] at he
    have := h (n + k) e he
    rw [show o + (n + k) * 3 = o + n * 3 + k * 3 by omega] at this
    exact this

/-- A value that is such a slice. -/
def SlTV (w : World) (v : Value) (l : List Rw) : Prop := ∃ a c, v = .slice a l.length c ∧ SlT w a l

/-- The values of rows of such slices. -/
def ValsT (w : World) (vs : List Value) (gs : List (List Rw)) : Prop := vs.length = gs.length ∧ ∀ (k : Nat) (g : List Rw), gs[k]? = some g → ∃ v, vs[k]? = some v ∧ SlTV w v g

theorem ValsT.below {w w' : World} {B : Nat} {vs : List Value} {gs : List (List Rw)} (h : ValsT w vs gs) (hb : Below B w w') (hB : w.heap.size ≤ B) : ValsT w' vs gs :=
  ⟨h.1, fun k g hg => by
    obtain ⟨v, h1, a, c, h2, h3⟩ := h.2 k g hg
    exact ⟨v, h1, a, c, h2, h3.below hb hB⟩⟩

theorem ValsT.kept {w w' : World} {g : Nat} {vs : List Value} {gs : List (List Rw)} {cs : Array Value} {fr : Nat × Nat} (h : ValsT w vs gs) (hg : w.grownBy w' (some g)) (ht : w.heap[g]? = some (.cells cs 23 fr)) : ValsT w' vs gs :=
  ⟨h.1, fun k q hq => by
    obtain ⟨v, h1, a, c, h2, h3⟩ := h.2 k q hq
    exact ⟨v, h1, a, c, h2, h3.kept hg ht⟩⟩

theorem ValsT.app {w : World} {vs vs' : List Value} {gs gs' : List (List Rw)} (h : ValsT w vs gs) (h' : ValsT w vs' gs') : ValsT w (vs ++ vs') (gs ++ gs') := by
  refine ⟨by simp [h.1, h'.1], fun k g hg => ?_⟩
  by_cases c : k < gs.length
  · rw [List.getElem?_append_left c] at hg
    obtain ⟨v, h1, h2⟩ := h.2 k g hg
    exact ⟨v, by rw [List.getElem?_append_left (by rw [h.1]; exact c)]; exact h1, h2⟩
  · rw [List.getElem?_append_right (by omega)] at hg
    obtain ⟨v, h1, h2⟩ := h'.2 _ g hg
    exact ⟨v, by rw [List.getElem?_append_right (by rw [h.1]; omega), h.1]; exact h1, h2⟩

theorem ValsT.one {w : World} {v : Value} {g : List Rw} (h : SlTV w v g) : ValsT w [v] [g] := by
  refine ⟨rfl, fun k q hq => ?_⟩
  match k, hq with
  | 0, hq => simp at hq; subst hq; exact ⟨v, rfl, h⟩
  | k + 1, hq => simp at hq

theorem ValsT.nil (w : World) : ValsT w [] [] := ⟨rfl, fun k g hg => by simp at hg⟩

theorem ValsT.take {w : World} {vs : List Value} {gs : List (List Rw)} (h : ValsT w vs gs) (n : Nat) : ValsT w (vs.take n) (gs.take n) := by
  refine ⟨by simp [h.1], fun k g hg => ?_⟩
  rw [List.getElem?_take] at hg
  split at hg
  · rename_i hk
    obtain ⟨v, h1, h2⟩ := h.2 k g hg
    exact ⟨v, by rw [List.getElem?_take_of_lt hk]; exact h1, h2⟩
  · cases hg

theorem ValsT.drop {w : World} {vs : List Value} {gs : List (List Rw)} (h : ValsT w vs gs) (n : Nat) : ValsT w (vs.drop n) (gs.drop n) := by
  refine ⟨by simp [h.1], fun k g hg => ?_⟩
  rw [List.getElem?_drop] at hg
  obtain ⟨v, h1, h2⟩ := h.2 _ g hg
  exact ⟨v, by rw [List.getElem?_drop]; exact h1, h2⟩

theorem ValsT.one' {w : World} {vs : List Value} {gs : List (List Rw)} (h : ValsT w vs gs) : ∀ v ∈ vs, v.oneCell' = true := by
  intro v hv
  obtain ⟨i, hi⟩ := List.getElem?_of_mem hv
  have hl := (List.getElem?_eq_some_iff.1 hi).1
  obtain ⟨g, hg⟩ : ∃ g, gs[i]? = some g := ⟨_, List.getElem?_eq_getElem (by rw [← h.1]; exact hl)⟩
  obtain ⟨v', h1, a, c, h2, _⟩ := h.2 i g hg
  rw [hi] at h1
  rw [Option.some.inj h1, h2]
  rfl

theorem NestR.vals {w : World} {lo hi : Nat} {v : Value} {gs : List (List Rw)} {vs : List Value} (h : NestR w lo hi v gs vs) : ValsT w vs gs :=
  ⟨h.len, fun k g hg => by
    obtain ⟨x, hx, hI, _⟩ := h.ins k g hg
    obtain ⟨a, c, rfl⟩ := rw_form hI
    exact ⟨_, hx, a, c, rfl, hI.slT⟩⟩

/-- A row of such slices of the call's own. -/
def OwnT (w : World) (B : Nat) (v : Value) (gs : List (List Rw)) (vs : List Value) : Prop := w.ownsRow B 23 1 v gs.length vs ∧ ValsT w vs gs

theorem OwnT.below {w w' : World} {B : Nat} {v : Value} {gs : List (List Rw)} {vs : List Value} (h : OwnT w B v gs vs) (hb : Below w.heap.size w w') : OwnT w' B v gs vs :=
  ⟨rowR_same h.1 (fun g hg => hb.block g (World.ownsRow.lt h.1 g hg).2), h.2.below hb (Nat.le_refl _)⟩

theorem OwnT.form {w : World} {B : Nat} {v : Value} {gs : List (List Rw)} {vs : List Value} (h : OwnT w B v gs vs) : ∃ a c, v = .slice a gs.length c := by
  rcases h.1.2 with ⟨rfl, hn⟩ | ⟨g, cap, cur, rfl, _⟩
  · exact ⟨none, 0, by rw [hn]⟩
  · exact ⟨_, _, rfl⟩

theorem OwnT.bk {w : World} {B : Nat} {v : Value} {gs : List (List Rw)} {vs : List Value} (h : OwnT w B v gs vs) : BkV w v gs := by
  rcases h.1.2 with ⟨rfl, hn⟩ | ⟨g, cap, cur, rfl, _, _⟩
  · have : gs = [] := List.eq_nil_of_length_eq_zero hn
    subst this
    exact ⟨none, 0, rfl, fun k g hg => by simp at hg⟩
  · refine ⟨_, _, rfl, fun k q hq => ?_⟩
    obtain ⟨v, h1, a, c, rfl, h3⟩ := h.2.2 k q hq
    have hk := (List.getElem?_eq_some_iff.1 hq).1
    refine ⟨g, 0, a, c, rfl, ?_, h3.sl⟩
    have := World.ownsRow.cellAt h.1 k (by omega)
    rw [h1] at this
    simpa using this

theorem NestR.ownT {w : World} {lo hi : Nat} {v : Value} {gs : List (List Rw)} {vs : List Value} (h : NestR w lo hi v gs vs) : OwnT w lo v gs vs := ⟨h.row, h.vals⟩

theorem ownT_nil (w : World) (B : Nat) : OwnT w B (.slice none 0 0) [] [] := ⟨World.ownsRow_nil _ _ _ _, ValsT.nil w⟩
end Go.Proofs.YtbgomhgohphglaaDoor
