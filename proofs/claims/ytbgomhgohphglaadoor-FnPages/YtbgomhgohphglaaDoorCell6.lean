/- Cells of a known row put anew: append with room, clear. -/
import Derived.Test.YtbgomhgohphglaaDoorRepl6a
import Derived.Laws.IdiomCopy
import Derived.Lib.SliceRun
import Derived.Deep.RegionLaw
namespace Go.Proofs.YtbgomhgohphglaaDoor
open Go.RowKit

theorem grown_set6 (w : World) (g k : Nat) (u : Value) : w.grownBy (w.setCell ⟨g, k, none⟩ u) (some g) :=
  ⟨rfl, rfl, rfl, by simp [World.setCell], fun j _ hj => heap_setCell_other w ⟨g, k, none⟩ j u (fun e => hj (by rw [e]))⟩

theorem row_set6 {w : World} {g k : Nat} {cur : List Value} {t : TypeId} (u : Value) (h : w.heap[g]? = some (.cells cur.toArray t (0, 0))) : (w.setCell ⟨g, k, none⟩ u).heap[g]? = some (.cells (cur.set k u).toArray t (0, 0)) := by
  obtain ⟨hlt, hk⟩ := Array.getElem?_eq_some_iff.1 h
  show (w.heap.modify g _)[g]? = _
  rw [Array.getElem?_eq_getElem (by rw [Array.size_modify]; exact hlt), Array.getElem_modify_self, hk]
  simp

theorem splice_nil {α : Type} (L : List α) (o : Nat) : splice L o [] = L := by simp [splice]

theorem splice_cons {α : Type} (L : List α) (o : Nat) (v : α) (vs : List α) (h : o < L.length) : splice (L.set o v) (o + 1) vs = splice L o (v :: vs) := by
  have e1 : (L.set o v).take (o + 1) = L.take o ++ [v] := by
    rw [List.take_add_one, List.getElem?_set_self h, List.take_set_of_le (Nat.le_refl _)]
    rfl
  have e2 : (L.set o v).drop (o + 1 + vs.length) = L.drop (o + 1 + vs.length) := List.drop_set_of_lt (by omega)
  unfold splice
  rw [e1, e2, List.append_assoc, List.length_cons, show o + (vs.length + 1) = o + 1 + vs.length by omega]
  rfl

theorem row_sets6 : ∀ (vs : List Value) (o : Nat) {w : World} {g : Nat} {cur : List Value} {t : TypeId}, w.heap[g]? = some (.cells cur.toArray t (0, 0)) → o + vs.length ≤ cur.length → (w.setCells g o vs).heap[g]? = some (.cells (splice cur o vs).toArray t (0, 0))
  | [], o, w, g, cur, t, h, _ => by rw [splice_nil]; exact h
  | v :: vs, o, w, g, cur, t, h, hl => by
    simp only [List.length_cons] at hl
    have := row_sets6 vs (o + 1) (row_set6 (k := o) v h) (by rw [List.length_set]; omega)
    rw [splice_cons _ _ _ _ (by omega)] at this
    exact this

theorem grown_sets6 : ∀ (vs : List Value) (o : Nat) (w : World) (g : Nat), w.grownBy (w.setCells g o vs) (some g)
  | [], _, _, _ => ⟨rfl, rfl, rfl, Nat.le_refl _, fun _ _ _ => rfl⟩
  | v :: vs, o, w, g => (grown_set6 w g o v).trans (grown_sets6 vs (o + 1) (w.setCell ⟨g, o, none⟩ v) g)

theorem splice_take {α : Type} (L A : List α) (o : Nat) (h : o ≤ L.length) : (splice L o A).take o = L.take o := by
  unfold splice
  rw [List.take_append_of_le_length (by rw [List.length_take]; omega), List.take_take, Nat.min_self]

theorem splice_take2 {α : Type} (L A : List α) (o : Nat) (h : o ≤ L.length) : (splice L o A).take (o + A.length) = L.take o ++ A := by
  unfold splice
  have e : (L.take o).length = o := by rw [List.length_take]; omega
  rw [← List.append_assoc]
  exact List.take_left' (by rw [List.length_append, e])

theorem cells_there {w : World} {g k : Nat} {cur : List Value} {t : TypeId} (h : w.heap[g]? = some (.cells cur.toArray t (0, 0))) (hk : k < cur.length) : (w.cell? ⟨g, k, none⟩).isSome = true ∧ w.frozen? ⟨g, k, none⟩ = false := by
  refine ⟨?_, by simp [World.frozen?, h]⟩
  rw [cell_list h, List.getElem?_eq_getElem hk]
  rfl

/-- Append to a row that has room, of cells that lie anywhere. -/
theorem step_room6 {P : Program} {ops : Array Oper} {o : Oper} {a : Act} {w : World} {K : Act → World → Prop} {Q : Exit → Act → World → Prop} {E : Prop} (hgd : o.guard = none) (s x : Operand) (t : TypeId)
    (ho : o.op = Op.call { callee := Callee.builtin Builtin.append, args := #[s, x], argTypes := #[t, t] }) (e : TypeId) (i : TypeInfo) (size : Nat) (hu : P.underlying t = some (.slice e)) (hi : P.info? e = some i) (hz : i.size = size)
    (g n cap : Nat) (hs : a.eval s = .slice (some ⟨g, 0, none⟩) n cap) (ad : Addr) (m c : Nat) (hx : a.eval x = .slice (some ad) m c) (cur : List Value) (T : TypeId) (hg : w.heap[g]? = some (.cells cur.toArray T (0, 0)))
    (news : List Value) (hn : news.length = m * size) (hsrc : ∀ j u, news[j]? = some u → w.cell? (ad.add j) = some u) (h1 : ∀ u ∈ news, u.oneCell' = true) (hroom : n + m ≤ cap) (hfit : n * size + news.length ≤ cur.length) (tot : Nat) (htot : n + m = tot)
    (h : ∀ w', Hid (w'.heap[g]? = some (.cells (splice cur (n * size) news).toArray T (0, 0))) → w.grownBy w' (some g) → K (a.put o.dst (.slice (some ⟨g, 0, none⟩) tot cap)) w') :
    if Region.wanted o (yielded ops a.tmps) = true then Oper.wp P o a w K Q else E := by
  refine step_append_room hgd s x t ho e i size hu hi hz g 0 n cap hs ad m c news hx hn hsrc h1 hroom (fun j hj => cells_there hg (by omega)) ?_
  rw [htot, Nat.zero_add]
  exact h _ (row_sets6 news _ hg hfit) (grown_sets6 _ _ _ _)

/-- clear of one element. -/
theorem run_clear1 {P : Program} (w : World) (t e ty : TypeId) (z : Value) (zs : List Value) (ht : P.underlying t = some (.slice e)) (hv : ∀ w, (zeroValue e).run P w = .ok z w) (hz : (Builtin.zeroCells z.cells 1).toList = zs) (h1 : ∀ v ∈ zs, v.oneCell' = true) (b o c : Nat)
    (hc : ∀ j, j < zs.length → (w.cell? ⟨b, o + j, none⟩).isSome = true) (hf : ∀ j, j < zs.length → w.frozen? ⟨b, o + j, none⟩ = false) :
    (Builtin.clear_ #[t] ty #[.slice (some ⟨b, o, none⟩) 1 c]).run P w = .ok (.tuple #[]) (w.setCells b o zs) := by
  have hst := run_storeCells_cells (P := P) b o zs 0 w (by simpa using hc) (by simpa using hf) h1
  simp only [Nat.add_zero] at hst
  have hz2 : Builtin.zeroCells z.cells 1 = zs.toArray := by rw [← hz, Array.toArray_toList]
  simp [Builtin.clear_, run_underlying ht, hv, hz2, hst]
end Go.Proofs.YtbgomhgohphglaaDoor
