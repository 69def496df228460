/- Rows put behind rows, none of them too. -/
import Derived.Test.YtbgomhgohphglaaDoorRwK
import Derived.OwnWalk
import Derived.Deep.RegionLaw
import Derived.Deep.AppendLies
import Derived.Deep.MidRow
import Derived.Lib.AppendZeros
namespace Go.Proofs.YtbgomhgohphglaaDoor
open Go.RowKit

theorem run_append_none6 {P : Program} (w : World) (t ty e : TypeId) (i : TypeInfo) (ht : P.underlying t = some (.slice e)) (hi : P.info? e = some i) (b : Option Addr) (n c c' : Nat) (hle : n ≤ c) :
    (Builtin.append_ #[t, t] ty #[.slice b n c, .slice none 0 c']).run P w = .ok (.slice b n c) w := by
  cases b <;> simp [Builtin.append_, run_underlying ht, sizeOf, typeInfo, hi, hle, storeCells, Builtin.lenOf, Builtin.firstCells]

theorem info_rwA : (Tryd.prog.info? 32).map (fun i => (i.zero, i.size, i.bytes)) = some (some (.agg #[.string ⟨#[]⟩, .string ⟨#[]⟩, .string ⟨#[]⟩]), 3, 48) := by kernel_rfl

/-- A slice of rows, wherever it lies. -/
def SlV (w : World) (v : Value) (l : List Rw) : Prop := ∃ a c, v = .slice a l.length c ∧ SlRw w a l

theorem SlV.below {w w' : World} {B : Nat} {v : Value} {l : List Rw} (h : SlV w v l) (hb : Below B w w') (hB : w.heap.size ≤ B) : SlV w' v l := by
  obtain ⟨a, c, rfl, h⟩ := h
  exact ⟨a, c, rfl, h.below hb hB⟩

theorem Rws.slV {w : World} {B : Nat} {v : Value} {l : List Rw} (h : Rws w B v l) : SlV w v l := by
  obtain ⟨a, c, rfl⟩ := rw_form h
  exact ⟨a, c, rfl, rws_sl h⟩

theorem rwAll_one (l : List Rw) : ∀ v ∈ rwAll l, v.oneCell' = true := by
  intro v hv
  simp only [rwAll, List.mem_flatMap] at hv
  obtain ⟨x, _, hx⟩ := hv
  simp [rwC] at hx
  rcases hx with rfl | rfl | rfl <;> rfl

theorem sl_cells {w : World} {b o : Nat} {l : List Rw} (h : ∀ (k : Nat) (e : Rw), l[k]? = some e → w.cell? ⟨b, o + k * 3, none⟩ = some (.string e.key) ∧ w.cell? ⟨b, o + k * 3 + 1, none⟩ = some (.string e.text) ∧ w.cell? ⟨b, o + k * 3 + 2, none⟩ = some (.string e.val)) :
    ∀ j v, (rwAll l)[j]? = some v → w.cell? ((⟨b, o, none⟩ : Addr).add j) = some v := by
  intro j v hv
  have hadd : (⟨b, o, none⟩ : Addr).add j = ⟨b, o + j, none⟩ := by unfold Addr.add; split <;> simp_all
  rw [hadd]
  have hj := (List.getElem?_eq_some_iff.1 hv).1
  rw [rwAll_len] at hj
  obtain ⟨k, i, rfl, hi⟩ : ∃ k i, j = k * 3 + i ∧ i < 3 := ⟨j / 3, j % 3, by omega, by omega⟩
  obtain ⟨e, he⟩ : ∃ e, l[k]? = some e := ⟨_, List.getElem?_eq_getElem (by omega)⟩
  rw [rwAll_at l k i e he hi] at hv
  obtain ⟨h0, h1, h2⟩ := h k e he
  rw [show o + (k * 3 + i) = o + k * 3 + i by omega]
  match i, hi with
  | 0, _ => simp [rwC] at hv; subst hv; exact h0
  | 1, _ => simp [rwC] at hv; subst hv; exact h1
  | 2, _ => simp [rwC] at hv; subst hv; exact h2

theorem wp_append_rws {w : World} {o : Oper} {a : Act} {K : Act → World → Prop} {Q : Exit → Act → World → Prop} (s x : Operand)
    (ho : o.op = .call { callee := .builtin .append, args := #[s, x], argTypes := #[23, 23] }) (B : Nat) (v vx : Value) (l l' : List Rw) (hs : a.eval s = v) (hx : a.eval x = vx) (hI : Rws w B v l) (hR : SlV w vx l')
    (h63 : l.length + l'.length ≤ 1048576) (hbase : B ≤ w.heap.size) (h : ∀ v' w', Rws w' B v' (l ++ l') → w.grownBy w' v.ownBlock → K (a.put o.dst v') w') : Oper.wp Tryd.prog o a w K Q := by
  obtain ⟨i0, hi, hzz, hz1, hz2⟩ := info_parts info_rwA
  have app : ∀ (ad : Addr) (c : Nat), vx = .slice (some ad) l'.length c → (∀ j u, (rwAll l')[j]? = some u → w.cell? (ad.add j) = some u) → Oper.wp Tryd.prog o a w K Q := fun ad c hv hc => by
    refine wp_append_own w s x 23 ho B 32 i0 _ 3 48 Tryd.underlying23 hi hzz hz1 hz2 rfl (by decide) v l.length (rwAll l) hs hI ad l'.length c (rwAll l') (hx.trans hv) (rwAll_len l') hc (rwAll_one l') (by unfold maxLen; omega) (by omega) hbase fun v' w' h1 h2 _ => h v' w' ?_ h2
    unfold Rws
    rw [List.length_append, rwAll_append]
    exact h1
  obtain ⟨ax, cx, hv, hR⟩ := hR
  rcases hR with rfl | ⟨b, off, rfl, hE⟩
  · cases ax with
    | none =>
      obtain ⟨b, n, c', rfl, hnc⟩ : ∃ b n c, v = .slice b n c ∧ n ≤ c := by
        rcases hI.form with ⟨rfl, rfl⟩ | ⟨g, cap, rfl, h1, _⟩
        · exact ⟨_, _, _, rfl, Nat.le_refl _⟩
        · exact ⟨_, _, _, rfl, h1⟩
      refine Go.Lib.wp_append_run w s x 23 23 ho _ _ hs (hx.trans hv) _ _ (run_append_none6 w _ _ _ i0 Tryd.underlying23 hi b n c' cx hnc) ?_
      refine h _ _ ?_ ⟨rfl, rfl, rfl, Nat.le_refl _, fun _ _ _ => rfl⟩
      rw [List.append_nil]
      exact hI
    | some ad => exact app ad cx hv (fun j u hj => by simp [rwAll] at hj)
  · exact app ⟨b, off, none⟩ cx hv (sl_cells hE)

theorem append_rws {w : World} {ops : Array Oper} {rest : List Oper} {o : Oper} {a : Act} {Q : Exit → Act → World → Prop} (hgd : o.guard = none) (s x : Operand)
    (ho : o.op = .call { callee := .builtin .append, args := #[s, x], argTypes := #[23, 23] }) (B : Nat) (v vx : Value) (l l' : List Rw) (hs : a.eval s = v) (hx : a.eval x = vx) (hI : Rws w B v l) (hR : SlV w vx l')
    (h63 : l.length + l'.length ≤ 1048576) (hbase : B ≤ w.heap.size) (h : ∀ v' w', Rws w' B v' (l ++ l') → w.grownBy w' v.ownBlock → wpList Tryd.prog ops Q rest (a.put o.dst v') w') : wpList Tryd.prog ops Q (o :: rest) a w :=
  wpList_plain hgd fun _ hK => wp_append_rws s x ho B v vx l l' hs hx hI hR h63 hbase fun v' w' h1 h2 => hK _ _ (h v' w' h1 h2)

theorem step_append_rws {w : World} {ops : Array Oper} {o : Oper} {a : Act} {K : Act → World → Prop} {Q : Exit → Act → World → Prop} {E : Prop} (hgd : o.guard = none) (s x : Operand)
    (ho : o.op = .call { callee := .builtin .append, args := #[s, x], argTypes := #[23, 23] }) (B : Nat) (v vx : Value) (l l' : List Rw) (hs : a.eval s = v) (hx : a.eval x = vx) (hI : Rws w B v l) (hR : SlV w vx l')
    (h63 : l.length + l'.length ≤ 1048576) (hbase : B ≤ w.heap.size) (h : ∀ v' w', Rws w' B v' (l ++ l') → w.grownBy w' v.ownBlock → K (a.put o.dst v') w') :
    if Region.wanted o (yielded ops a.tmps) = true then Oper.wp Tryd.prog o a w K Q else E := by
  rw [if_pos (by simp [Region.wanted, hgd])]
  exact wp_append_rws s x ho B v vx l l' hs hx hI hR h63 hbase h

theorem rws_heap {w u : World} {B : Nat} {v : Value} {l : List Rw} (h : Rws w B v l) (hu : u.heap = w.heap) : Rws u B v l := by
  unfold Rws World.ownsRow at *
  rw [hu]
  exact h

theorem slRw_heap {w u : World} {a : Option Addr} {l : List Rw} (h : SlRw w a l) (hu : u.heap = w.heap) : SlRw u a l := by
  rcases h with h | ⟨b, o, h1, h2⟩
  · exact .inl h
  · refine .inr ⟨b, o, h1, fun k e he => ?_⟩
    have e1 : ∀ p, u.cell? p = w.cell? p := fun p => by unfold World.cell?; rw [hu]
    rw [e1, e1, e1]
    exact h2 k e he

theorem rws_low6 {W : World} {B B' : Nat} {v : Value} {l : List Rw} (h : Rws W B v l) (hb : B' ≤ B) : Rws W B' v l := by
  refine ⟨h.1, ?_⟩
  rcases h.2 with h0 | ⟨g, cap, cur, q1, q2, q3⟩
  · exact .inl h0
  · exact .inr ⟨g, cap, cur, q1, by omega, q3⟩

theorem slV_heap {w u : World} {v : Value} {l : List Rw} (h : SlV w v l) (hu : u.heap = w.heap) : SlV u v l := by
  obtain ⟨a, c, rfl, h⟩ := h
  refine ⟨a, c, rfl, ?_⟩
  rcases h with h | ⟨b, o, h1, h2⟩
  · exact .inl h
  · refine .inr ⟨b, o, h1, fun k e he => ?_⟩
    have e1 : ∀ p, u.cell? p = w.cell? p := fun p => by unfold World.cell?; rw [hu]
    rw [e1, e1, e1]
    exact h2 k e he

theorem sl_keep {w u w' : World} {B : Nat} {r : Option Nat} {v : Value} {l : List Rw} (hg : u.grownBy w' r) (h : Rws w B v l) (hu : u.heap = w.heap) (hn : v.ownBlock ≠ r) : SlV w' v l :=
  Rws.slV (World.ownsRow.kept (rws_heap h hu) hg (.inr hn))

/-- No rows, and one row, that were laid just now. -/
theorem rws_lit0 (w : World) (n B : Nat) (hn : n = w.heap.size) (hB : B ≤ w.heap.size) : Rws (w.alloc (.cells #[] 32)) B (.slice (some ⟨n, 0, none⟩) 0 0) [] := by
  subst hn
  exact ⟨rfl, .inr ⟨w.heap.size, 0, #[], rfl, hB, heap_alloc_new _ _, Nat.le_refl _, Nat.zero_le _, rfl, rfl⟩⟩

theorem rws_lit1 (w : World) (n B : Nat) (x : Rw) (hn : n = w.heap.size) (hB : B ≤ w.heap.size) : Rws (w.alloc (.cells #[.string x.key, .string x.text, .string x.val] 32)) B (.slice (some ⟨n, 0, none⟩) 1 1) [x] := by
  subst hn
  exact ⟨rfl, .inr ⟨w.heap.size, 1, _, rfl, hB, heap_alloc_new _ _, Nat.le_refl _, by unfold maxLen; omega, rfl, rfl⟩⟩
end Go.Proofs.YtbgomhgohphglaaDoor
