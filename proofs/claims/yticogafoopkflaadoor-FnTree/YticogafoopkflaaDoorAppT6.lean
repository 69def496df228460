/- Append onto rows of slices of Rows, from wherever they lie. -/
import Derived.Test.YticogafoopkflaaDoorRepl6a
import Derived.Test.YticogafoopkflaaDoorSPart6
namespace Go.Proofs.YticogafoopkflaaDoor
open Go.RowKit

/-- A row of slices that is read, wherever it lies, none of them too. -/
def SrcV (w : World) (v : Value) (gs : List (List Rw)) (vs : List Value) : Prop :=
  ∃ a c, v = .slice a gs.length c ∧ (gs = [] ∨ ∃ g o, a = some ⟨g, o, none⟩ ∧ ∀ j u, vs[j]? = some u → w.cell? ⟨g, o + j, none⟩ = some u) ∧ ValsT w vs gs

theorem srcV_heap {w u : World} {v : Value} {gs : List (List Rw)} {vs : List Value} (h : SrcV w v gs vs) (hu : u.heap = w.heap) : SrcV u v gs vs := by
  obtain ⟨a, c, h1, h2, h3⟩ := h
  refine ⟨a, c, h1, ?_, valsT_heap h3 hu⟩
  rcases h2 with h2 | ⟨g, o, q1, q2⟩
  · exact .inl h2
  · refine .inr ⟨g, o, q1, fun j x hx => ?_⟩
    have e1 : ∀ p, u.cell? p = w.cell? p := fun p => by unfold World.cell?; rw [hu]
    rw [e1]
    exact q2 j x hx

theorem SrcV.below {w w' : World} {v : Value} {gs : List (List Rw)} {vs : List Value} (h : SrcV w v gs vs) (hb : Below w.heap.size w w') : SrcV w' v gs vs := by
  obtain ⟨a, c, h1, h2, h3⟩ := h
  refine ⟨a, c, h1, ?_, h3.below hb (Nat.le_refl _)⟩
  rcases h2 with h2 | ⟨g, o, q1, q2⟩
  · exact .inl h2
  · exact .inr ⟨g, o, q1, fun j x hx => (hb.cell (rw_cell_lt (q2 j x hx))).trans (q2 j x hx)⟩

theorem OwnT.srcV {w : World} {B : Nat} {v : Value} {gs : List (List Rw)} {vs : List Value} (h : OwnT w B v gs vs) : SrcV w v gs vs := by
  by_cases h0 : 0 < gs.length
  · obtain ⟨g, c, rfl, _, q, _⟩ := h.src h0
    refine ⟨_, c, rfl, .inr ⟨g, 0, rfl, fun j u hj => ?_⟩, h.2⟩
    have := q j u hj
    rw [add_cell] at this
    exact this
  · obtain ⟨a, c, rfl⟩ := h.form
    exact ⟨a, c, rfl, .inl (List.eq_nil_of_length_eq_zero (by omega)), h.2⟩

/-- The first of them. -/
theorem SrcV.take {w : World} {a : Option Addr} {c : Nat} {gs : List (List Rw)} {vs : List Value} (h : SrcV w (.slice a gs.length c) gs vs) (k : Nat) (hk : k ≤ gs.length) : SrcV w (.slice a k c) (gs.take k) (vs.take k) := by
  obtain ⟨a', c', h1, h2, h3⟩ := h
  injection h1 with q1 _ q3
  subst q1
  subst q3
  refine ⟨a, c, by rw [List.length_take, Nat.min_eq_left hk], ?_, h3.take k⟩
  rcases h2 with h2 | ⟨g, o, q1, q2⟩
  · exact .inl (by rw [h2]; simp)
  · refine .inr ⟨g, o, q1, fun j u hj => q2 j u ?_⟩
    rw [List.getElem?_take] at hj
    split at hj
    · exact hj
    · cases hj

/-- Those behind the first. -/
theorem SrcV.drop {w : World} {g o c : Nat} {gs : List (List Rw)} {vs : List Value} (h : SrcV w (.slice (some ⟨g, o, none⟩) gs.length c) gs vs) (k : Nat) : SrcV w (.slice (some ⟨g, o + k, none⟩) (gs.length - k) (c - k)) (gs.drop k) (vs.drop k) := by
  obtain ⟨a', c', h1, h2, h3⟩ := h
  injection h1 with q1 _ q3
  subst q1
  subst q3
  refine ⟨_, c - k, by rw [List.length_drop], ?_, h3.drop k⟩
  rcases h2 with h2 | ⟨g', o', q1, q2⟩
  · exact .inl (by rw [h2]; simp)
  · cases q1
    refine .inr ⟨g, o + k, rfl, fun j u hj => ?_⟩
    rw [List.getElem?_drop] at hj
    have := q2 (k + j) u hj
    rw [show o + (k + j) = o + k + j by omega] at this
    exact this

theorem SrcV.none {w : World} {a : Option Addr} {c : Nat} : SrcV w (.slice a 0 c) [] [] := ⟨a, c, rfl, .inl rfl, ValsT.nil w⟩

theorem append_ts {w : World} {ops : Array Oper} {rest : List Oper} {o : Oper} {a : Act} {Q : Exit → Act → World → Prop} (hgd : o.guard = none) (s x : Operand)
    (ho : o.op = .call { callee := .builtin .append, args := #[s, x], argTypes := #[52, 52] }) (B : Nat) (v vx : Value) (gs ps : List (List Rw)) (vs vsp : List Value) (hs : a.eval s = v) (hx : a.eval x = vx) (hO : OwnT w B v gs vs) (hP : SrcV w vx ps vsp)
    (h63 : gs.length + ps.length ≤ 1048576) (hbase : B ≤ w.heap.size) (h : ∀ v' w', OwnT w' B v' (gs ++ ps) (vs ++ vsp) → w.grownBy w' v.ownBlock → wpList Tryd.prog ops Q rest (a.put o.dst v') w') : wpList Tryd.prog ops Q (o :: rest) a w := by
  obtain ⟨i0, hi, hzz, hz1, hz2⟩ := info_parts info_rwT
  obtain ⟨ax, cx, rfl, h2, h3⟩ := hP
  have key : ValsT w (vs ++ vsp) (gs ++ ps) := hO.2.app h3
  have app : ∀ ad : Addr, ax = some ad → (∀ j u, vsp[j]? = some u → w.cell? (ad.add j) = some u) → wpList Tryd.prog ops Q (o :: rest) a w := fun ad had hcell => by
    subst had
    obtain ⟨v', w', hrun, r1, r2, _⟩ := run_append_own (P := Tryd.prog) w B 52 o.type 23 i0 (.slice none 0 0) 1 24 Tryd.underlying52 hi hzz hz1 hz2 rfl (by decide) v gs.length vs hO.1 ad ps.length cx vsp (by rw [h3.1, Nat.mul_one]) hcell h3.one' (by unfold maxLen; omega) (by omega) hbase
    refine Go.Lib.wpList_append_run w hgd s x 52 52 ho _ _ hs hx _ _ hrun (h v' w' ⟨by rw [List.length_append]; exact r1, ?_⟩ r2)
    rcases hO.1.2 with ⟨rfl, _⟩ | ⟨g', cap', cur', rfl, _, hgt, _⟩
    · exact key.below (B := w.heap.size) ⟨r2.os, r2.tape, r2.output, r2.size, fun k hk => r2.block k hk (by simp [Value.ownBlock])⟩ (Nat.le_refl _)
    · exact key.kept r2 hgt
  rcases h2 with rfl | ⟨g, off, rfl, hc⟩
  · have hv0 : vsp = [] := List.eq_nil_of_length_eq_zero (by rw [h3.1]; rfl)
    subst hv0
    cases ax with
    | none =>
      obtain ⟨b, n, c', rfl, hnc⟩ : ∃ b n c, v = .slice b n c ∧ n ≤ c := by
        rcases hO.1.2 with ⟨rfl, _⟩ | ⟨g, cap, cur, rfl, _, _, q, _⟩
        · exact ⟨_, _, _, rfl, Nat.le_refl _⟩
        · exact ⟨_, _, _, rfl, q⟩
      refine Go.Lib.wpList_append_run w hgd s x 52 52 ho _ _ hs hx _ _ (run_append_none6 w _ _ _ i0 Tryd.underlying52 hi b n c' cx hnc) (h _ _ ?_ ⟨rfl, rfl, rfl, Nat.le_refl _, fun _ _ _ => rfl⟩)
      rw [List.append_nil, List.append_nil]
      exact hO
    | some ad => exact app ad rfl (fun j u hj => by simp at hj)
  · refine app _ rfl fun j u hj => ?_
    rw [add_cell]
    exact hc j u hj

theorem NestR.heap {w u : World} {lo hi : Nat} {v : Value} {gs : List (List Rw)} {vs : List Value} (h : NestR w lo hi v gs vs) (hu : u.heap = w.heap) : NestR u lo hi v gs vs := h.same (by rw [hu]; exact Nat.le_refl _) (fun g _ _ => by rw [hu])
end Go.Proofs.YticogafoopkflaaDoor
