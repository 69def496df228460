/- Two rows of unlike elements share no block. -/
import Derived.Test.YticogafoopkflaaDoorInts
namespace Go.Proofs.YticogafoopkflaaDoor
open Go.RowKit

theorem own_type {u : World} {B B' e e' size size' n n' : Nat} {v v' : Value} {xs xs' : List Value} (h : u.ownsRow B e size v n xs) (h' : u.ownsRow B' e' size' v' n' xs') (he : e ≠ e') : v.ownBlock = none ∨ v.ownBlock ≠ v'.ownBlock := by
  rcases h.2 with ⟨rfl, _⟩ | ⟨g, cap, cur, rfl, _, hg, _⟩
  · exact .inl rfl
  · refine .inr fun c => ?_
    rcases h'.2 with ⟨rfl, _⟩ | ⟨g', cap', cur', rfl, _, hg', _⟩
    · cases c
    · have : g = g' := Option.some.inj c
      subst this
      rw [hg] at hg'
      injection hg' with e1
      injection e1 with _ e2 _
      exact he e2

end Go.Proofs.YticogafoopkflaaDoor
