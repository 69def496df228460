/- Rows of rows of Rows: what an append wants of their type. -/
import Derived.Test.YtbgomhgohphglaaDoorNestR
import Derived.Test.YtbgomhgohphglaaDoorRwK
namespace Go.Proofs.YtbgomhgohphglaaDoor
open Go.RowKit

theorem info_rwL : (Tryd.prog.info? 23).map (fun i => (i.zero, i.size, i.bytes)) = some (some (.slice none 0 0), 1, 24) := by kernel_rfl

/-- An inner row is put anew, by one that was made since. -/
theorem NestR.store {w u : World} {lo hi g c k : Nat} {x0 : Value} {l0 : List Rw} {gs : List (List Rw)} {vs : List Value} (h : NestR w lo hi (.slice (some ⟨g, 0, none⟩) gs.length c) gs vs) (hlo : lo ≤ w.heap.size) (hu : Below w.heap.size w u) (h0 : Rws u w.heap.size x0 l0) (hk : k < gs.length) :
    NestR (u.setCell ⟨g, k, none⟩ x0) lo (u.setCell ⟨g, k, none⟩ x0).heap.size (.slice (some ⟨g, 0, none⟩) gs.length c) (gs.set k l0) (vs.set k x0) := by
  have h2 := h.below hu
  have s := World.ownsRow.stored h2.row k x0
  have hg : u.grownBy (u.setCell ⟨g, k, none⟩ x0) (Value.slice (some ⟨g, 0, none⟩) gs.length c).ownBlock := s.2
  have hold : ∀ (i : Nat) (y : Value), vs[i]? = some y → ∀ b, y.ownBlock = some b → b < w.heap.size := fun i y hy b hb => by
    have hi' := (List.getElem?_eq_some_iff.1 hy).1
    obtain ⟨q, hq⟩ : ∃ q, gs[i]? = some q := ⟨_, List.getElem?_eq_getElem (by rw [← h.len]; exact hi')⟩
    obtain ⟨z, hz, _, hl⟩ := h.ins i q hq
    rw [hy] at hz
    obtain rfl := Option.some.inj hz
    exact Nat.lt_of_lt_of_le (hl b hb) h.top
  have hnew : ∀ b, x0.ownBlock = some b → w.heap.size ≤ b := fun b hb => (World.ownsRow.lt h0 b hb).1
  have hx0 : Rws (u.setCell ⟨g, k, none⟩ x0) lo x0 l0 := by
    have q := World.ownsRow.kept h0 hg (ownR_sym (h2.apart h0))
    refine ⟨q.1, ?_⟩
    rcases q.2 with q2 | ⟨g, cap, cur, a, b, c⟩
    · exact .inl q2
    · exact .inr ⟨g, cap, cur, a, Nat.le_trans hlo b, c⟩
  have hkv : k < vs.length := by rw [h.len]; exact hk
  refine ⟨Nat.le_refl _, by simp [h.len], by rw [List.length_set]; exact s.1, fun b hb => (World.ownsRow.lt s.1 b hb).2, fun j q hq => ?_, fun i j x y hij hx hy => ?_⟩
  · by_cases e : k = j
    · subst e
      rw [List.getElem?_set_self hk] at hq
      obtain rfl := Option.some.inj hq
      exact ⟨x0, List.getElem?_set_self hkv, hx0, fun b hb => (World.ownsRow.lt hx0 b hb).2⟩
    · rw [List.getElem?_set_ne e] at hq
      obtain ⟨y, hy, hJ, _⟩ := h2.ins j q hq
      have hJ2 := World.ownsRow.kept hJ hg (ownR_sym (h2.apart hJ))
      exact ⟨y, by rw [List.getElem?_set_ne e]; exact hy, hJ2, fun b hb => (World.ownsRow.lt hJ2 b hb).2⟩
  · by_cases ei : k = i
    · subst ei
      rw [List.getElem?_set_self hkv] at hx
      obtain rfl := Option.some.inj hx
      rw [List.getElem?_set_ne hij] at hy
      cases e : x0.ownBlock with
      | none => exact .inl rfl
      | some b =>
        refine .inr fun c => ?_
        have h3 := hold j y hy b c.symm
        have h4 := hnew b e
        omega
    · rw [List.getElem?_set_ne ei] at hx
      by_cases ej : k = j
      · subst ej
        rw [List.getElem?_set_self hkv] at hy
        obtain rfl := Option.some.inj hy
        cases e : x.ownBlock with
        | none => exact .inl rfl
        | some b =>
          refine .inr fun c => ?_
          have h3 := hold i x hx b e
          have h4 := hnew b c.symm
          omega
      · rw [List.getElem?_set_ne ej] at hy
        exact h.two i j x y hij hx hy
end Go.Proofs.YtbgomhgohphglaaDoor
