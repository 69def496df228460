/- Rows of entries: one put behind, one told anew. -/
import Derived.Test.YtakfnmhokijcoaaGreatDoorEnts
import Derived.Test.YtakfnmhokijcoaaGreatDoorApart2
import Derived.Test.YtakfnmhokijcoaaGreatDoorRowKinds
import Derived.Test.YtakfnmhokijcoaaGreatDoorGrown1
namespace Go.Proofs.YtakfnmhokijcoaaGreatDoor
open Go.RowKit

theorem addr_ne {b b' o o' : Nat} (h : b ≠ b' ∨ o ≠ o') : (⟨b, o, none⟩ : Addr) ≠ ⟨b', o', none⟩ := by
  intro e
  injection e
  omega

theorem cs_ne {u : World} {b b' o o' : Nat} {x : Value} (h : b ≠ b' ∨ o ≠ o') : (u.setCell ⟨b, o, none⟩ x).cell? ⟨b', o', none⟩ = u.cell? ⟨b', o', none⟩ := by
  apply World.cell?_setCell_other
  exact addr_ne h

theorem cs_eq {u : World} {a : Addr} {x y : Value} (h : u.cell? a = some y) : (u.setCell a x).cell? a = some x := by
  apply World.cell?_setCell_same
  exact h

/-- An elem laid into a block. -/
def setEl (u : World) (b : Nat) (e : El) : World := (((u.setCell ⟨b, 0, none⟩ (.int .i64 e.first)).setCell ⟨b, 1, none⟩ (.int .i64 e.second)).setCell ⟨b, 2, none⟩ (.int .i64 e.third)).setCell ⟨b, 3, none⟩ (.bool e.varies)

theorem setEl_far {u : World} {b b' o : Nat} {e : El} (h : b ≠ b') : (setEl u b e).cell? ⟨b', o, none⟩ = u.cell? ⟨b', o, none⟩ := by
  unfold setEl
  rw [cs_ne (.inl h), cs_ne (.inl h), cs_ne (.inl h), cs_ne (.inl h)]

theorem setEl_grown (u : World) (b : Nat) (e : El) : u.grownBy (setEl u b e) (some b) :=
  (((setCell_grown u b 0 _).trans (setCell_grown _ b 1 _)).trans (setCell_grown _ b 2 _)).trans (setCell_grown _ b 3 _)

theorem Ents.grown {u u' : World} {B b : Nat} {v : Value} {es : List Ent} (h : Ents u B v es) (hg : u.grownBy u' (some b)) (hb : b < B) : Ents u' B v es := by
  have ne : ∀ {v : Value}, (∀ g, v.ownBlock = some g → B ≤ g) → v.ownBlock = none ∨ v.ownBlock ≠ some b := fun {v} h => by
    cases e : v.ownBlock with
    | none => exact .inl rfl
    | some g =>
      refine .inr fun c => ?_
      have := h g e
      cases c
      omega
  obtain ⟨xs, hl, h1, h2⟩ := h
  refine ⟨xs, hl, World.ownsRow.kept h1 hg (ne fun g hg => (World.ownsRow.lt h1 g hg).1), fun k e he => ?_⟩
  obtain ⟨x, hx, hI⟩ := h2 k e he
  exact ⟨x, hx, World.ownsRow.kept hI hg (ne fun g hg => (World.ownsRow.lt hI g hg).1)⟩

theorem below_setEl {w u : World} {b : Nat} (h : Below w.heap.size w u) (hb : w.heap.size ≤ b) (e : El) : Below w.heap.size w (setEl u b e) :=
  (((h.setCell hb _).setCell hb _).setCell hb _).setCell hb _

theorem Ents.low {u : World} {B B' : Nat} {v : Value} {es : List Ent} (h : Ents u B' v es) (hB : B ≤ B') : Ents u B v es := by
  obtain ⟨xs, hl, h1, h2⟩ := h
  refine ⟨xs, hl, ?_, fun k e he => ?_⟩
  · obtain ⟨h3, h4⟩ := h1
    refine ⟨h3, ?_⟩
    rcases h4 with h4 | ⟨g, cap, cur, a, b, c⟩
    · exact .inl h4
    · exact .inr ⟨g, cap, cur, a, by omega, c⟩
  · obtain ⟨x, hx, hI⟩ := h2 k e he
    exact ⟨x, hx, ints_low2 hI hB⟩

theorem cells5_new (w : World) (x : Value) (e : El) (t : TypeId) : ∀ j u, (entC x e)[j]? = some u → (w.alloc (.cells #[x, .int .i64 e.first, .int .i64 e.second, .int .i64 e.third, .bool e.varies] t)).cell? ((⟨w.heap.size, 0, none⟩ : Addr).add j) = some u := by
  intro j u hj
  match j, hj with
  | 0, hj => simp [entC] at hj; subst hj; simp [Addr.add]
  | 1, hj => simp [entC] at hj; subst hj; simp [Addr.add]
  | 2, hj => simp [entC] at hj; subst hj; simp [Addr.add]
  | 3, hj => simp [entC] at hj; subst hj; simp [Addr.add]
  | 4, hj => simp [entC] at hj; subst hj; simp [Addr.add]
  | j + 5, hj => simp [entC] at hj

theorem cells5_at (w : World) (n : Nat) (x : Value) (e : El) (t : TypeId) (hn : n = w.heap.size) : ∀ j u, (entC x e)[j]? = some u → (w.alloc (.cells #[x, .int .i64 e.first, .int .i64 e.second, .int .i64 e.third, .bool e.varies] t)).cell? ((⟨n, 0, none⟩ : Addr).add j) = some u := by
  subst hn
  exact cells5_new w x e t

theorem info_ent : (Tryz.prog.info? 52).map (fun i => (i.zero, i.size, i.bytes)) = some (some (.agg #[.slice none 0 0, .int .i64 0, .int .i64 0, .int .i64 0, .bool false]), 5, 56) := by kernel_rfl

theorem entAll_snoc (xs : List Value) (es : List Ent) (x : Value) (e : Ent) (h : xs.length = es.length) : entAll (xs ++ [x]) (es ++ [e]) = entAll xs es ++ entC x e.el := by
  induction es generalizing xs with
  | nil => cases xs with
    | nil => rfl
    | cons y ys => simp at h
  | cons e' es ih => cases xs with
    | nil => simp at h
    | cons y ys =>
      show entC y e'.el ++ entAll (ys ++ [x]) (es ++ [e]) = (entC y e'.el ++ entAll ys es) ++ _
      rw [ih ys (by simpa using h), List.append_assoc]

/-- One entry put behind. -/
theorem Ents.snoc {u u' : World} {B : Nat} {v v' : Value} {es : List Ent} {xs : List Value} {x : Value} {e : Ent} (hl : xs.length = es.length)
    (h2 : ∀ (k : Nat) (e : Ent), es[k]? = some e → ∃ x, xs[k]? = some x ∧ Ints u B x e.runes) (hI : Ints u B x e.runes)
    (h1 : u.ownsRow B 52 5 v es.length (entAll xs es))
    (hg : u.grownBy u' v.ownBlock) (h : u'.ownsRow B 52 5 v' (es.length + 1) (entAll xs es ++ entC x e.el)) : Ents u' B v' (es ++ [e]) := by
  refine ⟨xs ++ [x], by simp [hl], ?_, fun k y hy => ?_⟩
  · rw [entAll_snoc xs es x e hl, List.length_append]
    exact h
  · by_cases hk : k < es.length
    · rw [List.getElem?_append_left hk] at hy
      obtain ⟨z, hz, hzi⟩ := h2 k y hy
      have hz1 := (List.getElem?_eq_some_iff.1 hz).1
      refine ⟨z, by rw [List.getElem?_append_left hz1]; exact hz, World.ownsRow.kept hzi hg (own_type hzi h1 (by decide))⟩
    · have hk2 : k = es.length := by
        have := (List.getElem?_eq_some_iff.1 hy).1
        simp at this; omega
      subst hk2
      simp at hy
      subst hy
      exact ⟨x, by rw [← hl]; simp, World.ownsRow.kept hI hg (own_type hI h1 (by decide))⟩
end Go.Proofs.YtakfnmhokijcoaaGreatDoor
