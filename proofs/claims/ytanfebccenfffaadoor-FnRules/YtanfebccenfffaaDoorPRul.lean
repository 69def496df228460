/- What rules put is told by its runes; what is refused is empty: without memory. -/
import Derived.Test.YtanfebccenfffaaDoorPDist
import Derived.Test.YtanfebccenfffaaDoorSRule3
namespace Go.Proofs.YtanfebccenfffaaDoor

theorem ent_told {es : List Ent} {lv : Int} {i : Nat} {e : Ent} (h : rulesOk es lv = true) (he : es[i]? = some e) : elemOk es lv e.runes = some e.el := by
  have hk := (entsOk_iff es).1 (of_decide_eq_true (show decide _ = true from h)).2.2 i e he
  unfold entOk at hk
  rw [Bool.and_eq_true, Bool.and_eq_true] at hk
  unfold elemOk
  rw [if_pos ⟨h, hk.1⟩]
  exact elemE_hit he (of_decide_eq_true hk.2.1)

theorem readA_zero {s : ByteArray} (h : (readA s).code ≠ 0) : (readA s).lv = 0 := by
  unfold readA at h ⊢
  split
  · rfl
  · rename_i hs
    rw [if_neg hs] at h
    cases hw : readW (words s) rs0 with
    | ok st => rw [hw] at h; exact absurd rfl h
    | error c => rfl

theorem dist_ne {es : List Ent} (h : DistE es) {i j : Nat} {e e' : Ent} (hij : j < i) (he : es[i]? = some e) (he' : es[j]? = some e') : e'.el ≠ e.el := h j i e' e hij he' he
end Go.Proofs.YtanfebccenfffaaDoor
