/- What slices.Replace leans on: append onto pages, of noughts too; copy; overlaps. -/
import Derived.Test.YtbgomhgohphglaaDoorSlT6
import Derived.Lib.AppendZerosOnto
import Derived.Lib.Overlaps
import Derived.Laws.CopyOwn
import Derived.OwnWalk
namespace Go.Proofs.YtbgomhgohphglaaDoor
open Go.RowKit

theorem append_types {P : Program} {w : World} {t tn ty e e' : TypeId} {b : Option Addr} {n c : Nat} {x : Value} (ht : P.underlying t = some (.slice e)) (htn : P.underlying tn = some (.slice e')) : (Builtin.append_ #[t, tn] ty #[.slice b n c, x]).run P w = (Builtin.append_ #[t, t] ty #[.slice b n c, x]).run P w := by
  simp only [Builtin.append_, List.getElem?_toArray, List.getElem?_cons_zero, List.getElem?_cons_succ, Sem.run_bind, run_underlying ht, run_underlying htn, Result.andThen_ok]

theorem OwnT.block {w : World} {B : Nat} {v : Value} {gs : List (List Rw)} {vs : List Value} (h : OwnT w B v gs vs) (h0 : 0 < gs.length) : ∃ g cap, ∃ cur : List Value, v = .slice (some ⟨g, 0, none⟩) gs.length cap ∧ B ≤ g ∧ w.heap[g]? = some (.cells cur.toArray 23 (0, 0)) ∧ gs.length ≤ cap ∧ cap ≤ maxLen ∧ cur.length = cap ∧ cur.take gs.length = vs := by
  rcases h.1.2 with ⟨_, hn⟩ | ⟨g, cap, cur, h1, h2, h3, h4, h5, h6, h7⟩
  · omega
  · exact ⟨g, cap, cur.toList, h1, h2, by simpa using h3, h4, h5, by rw [Array.length_toList, h6, Nat.mul_one], by rw [Nat.mul_one] at h7; exact h7⟩

theorem ownT_of {w : World} {B g cap : Nat} {cur : List Value} {gs : List (List Rw)} {vs : List Value} (hB : B ≤ g) (hg : w.heap[g]? = some (.cells cur.toArray 23 (0, 0))) (hn : gs.length ≤ cap) (hc : cap ≤ maxLen) (hl : cur.length = cap) (ht : cur.take gs.length = vs) (hv : ValsT w vs gs) : OwnT w B (.slice (some ⟨g, 0, none⟩) gs.length cap) gs vs :=
  ⟨⟨by rw [hv.1, Nat.mul_one], .inr ⟨g, cap, cur.toArray, rfl, hB, hg, hn, hc, by simp [hl], by simpa using ht⟩⟩, hv⟩

theorem info_rwT : (Tryd.prog.info? 23).map (fun i => (i.zero, i.size, i.bytes)) = some (some (.slice none 0 0), 1, 24) := by kernel_rfl
theorem size_rwT : (Tryd.prog.info? 23).map (·.size) = some 1 := by kernel_rfl

theorem wpList_append_T {w : World} {ops : Array Oper} {rest : List Oper} {o : Oper} {a : Act} {Q : Exit → Act → World → Prop} (hgd : o.guard = none) (s x : Operand)
    (ho : o.op = .call { callee := .builtin .append, args := #[s, x], argTypes := #[55, 52] }) (B B' : Nat) (v vx : Value) (gs ps : List (List Rw)) (vs vsp : List Value) (hs : a.eval s = v) (hx : a.eval x = vx) (hO : OwnT w B v gs vs) (hP : OwnT w B' vx ps vsp) (h0 : 0 < ps.length)
    (h63 : gs.length + ps.length ≤ 1048576) (hbase : B ≤ w.heap.size) (h : ∀ v' w', OwnT w' B v' (gs ++ ps) (vs ++ vsp) → w.grownBy w' v.ownBlock → wpList Tryd.prog ops Q rest (a.put o.dst v') w') : wpList Tryd.prog ops Q (o :: rest) a w := by
  obtain ⟨i0, hi, hzz, hz1, hz2⟩ := info_parts info_rwT
  obtain ⟨gp, cp, cur, rfl, _, hgp, hnc, _, _, htk⟩ := hP.block h0
  have hcell : ∀ j u, vsp[j]? = some u → w.cell? ((⟨gp, 0, none⟩ : Addr).add j) = some u := fun j u hj => by
    have hadd : (⟨gp, 0, none⟩ : Addr).add j = ⟨gp, j, none⟩ := by unfold Addr.add; split <;> simp_all
    have hjl := (List.getElem?_eq_some_iff.1 hj).1
    rw [hP.2.1] at hjl
    rw [hadd, World.ownsRow.cellAt hP.1 j (by omega)]
    exact hj
  obtain ⟨v', w', hrun, r1, r2, _⟩ := run_append_own (P := Tryd.prog) w B 55 o.type 23 i0 (.slice none 0 0) 1 24 Tryd.underlying55 hi hzz hz1 hz2 rfl (by decide) v gs.length vs hO.1 ⟨gp, 0, none⟩ ps.length cp vsp (by rw [hP.2.1, Nat.mul_one]) hcell hP.2.one' (by unfold maxLen; omega) (by omega) hbase
  obtain ⟨va, vc, hvv⟩ := hO.form
  subst hvv
  rw [← append_types (tn := 52) Tryd.underlying55 Tryd.underlying52] at hrun
  refine Go.Lib.wpList_append_run w hgd s x 55 52 ho _ _ hs hx _ _ hrun (h v' w' ⟨by rw [List.length_append]; exact r1, ?_⟩ r2)
  have key : ValsT w (vs ++ vsp) (gs ++ ps) := hO.2.app hP.2
  rcases hO.1.2 with ⟨q, _⟩ | ⟨g', cap', cur', q, _, hgt, _⟩
  · injection q with q1 _ _
    subst q1
    exact key.below (B := w.heap.size) ⟨r2.os, r2.tape, r2.output, r2.size, fun k hk => r2.block k hk (by simp [Value.ownBlock])⟩ (Nat.le_refl _)
  · injection q with q1 _ _
    subst q1
    exact key.kept r2 hgt

/-- The first pages of a row of pages. -/
theorem OwnT.cut {w : World} {B g cap : Nat} {gs : List (List Rw)} {vs : List Value} (h : OwnT w B (.slice (some ⟨g, 0, none⟩) gs.length cap) gs vs) (i : Nat) (hi : i ≤ gs.length) : OwnT w B (.slice (some ⟨g, 0, none⟩) i cap) (gs.take i) (vs.take i) := by
  rcases h.1.2 with ⟨q, _⟩ | ⟨g', cap', cur, q, q1, q2, q3, q4, q5, q6⟩
  · cases q
  · cases q
    have hl : (gs.take i).length = i := by rw [List.length_take]; omega
    refine ⟨⟨by rw [List.length_take, h.2.1, hl]; omega, .inr ⟨g, cap, cur, by rw [hl], q1, q2, by omega, q4, q5, ?_⟩⟩, h.2.take i⟩
    rw [hl, Nat.mul_one, ← q6, List.take_take, Nat.mul_one]
    congr 1
    omega

/-- A stretch laid over a row, and another behind it. -/
theorem splice_two {α : Type} (L A D : List α) (i : Nat) (h : i + A.length + D.length ≤ L.length) : (splice (splice L i A) (i + A.length) D).take (i + A.length + D.length) = L.take i ++ (A ++ D) := by
  have h1 : (L.take i).length = i := by rw [List.length_take]; omega
  have h2 : (splice L i A).take (i + A.length) = L.take i ++ A := by
    unfold splice
    rw [← List.append_assoc]
    exact List.take_left' (by rw [List.length_append, h1])
  have h3 : splice (splice L i A) (i + A.length) D = (L.take i ++ (A ++ D)) ++ (splice L i A).drop (i + A.length + D.length) := by
    rw [splice, h2]
    simp
  rw [h3]
  exact List.take_left' (by simp [h1]; omega)

/-- The stretch behind first. -/
theorem splice_two' {α : Type} (L A D : List α) (i : Nat) (h : i + A.length + D.length ≤ L.length) : (splice (splice L (i + A.length) D) i A).take (i + A.length + D.length) = L.take i ++ (A ++ D) := by
  have h1 : (L.take i).length = i := by rw [List.length_take]; omega
  have h0 : (L.take (i + A.length)).length = i + A.length := by rw [List.length_take]; omega
  have h2 : (splice L (i + A.length) D).take i = L.take i := by
    unfold splice
    rw [List.take_append_of_le_length (by omega), List.take_take]
    congr 1
    omega
  have h3 : (splice L (i + A.length) D).drop (i + A.length) = D ++ L.drop (i + A.length + D.length) := by
    unfold splice
    exact List.drop_left' h0
  have h4 : splice (splice L (i + A.length) D) i A = (L.take i ++ (A ++ D)) ++ L.drop (i + A.length + D.length) := by
    rw [splice, h2, h3]
    simp
  rw [h4]
  exact List.take_left' (by simp [h1]; omega)

theorem grown_setRow (w : World) (g : Nat) (cs : Array Value) : w.grownBy (w.setRow g cs) (some g) :=
  ⟨rfl, rfl, rfl, by simp [World.setRow], fun k _ hne => setRow_other w g k cs (fun e => hne (by rw [e]))⟩

/-- copy into a row that is known whole. -/
theorem wp_copy_G {P : Program} {w : World} {o : Oper} {a : Act} {K : Act → World → Prop} {Q : Exit → Act → World → Prop} (d s : Operand) (dT sT : TypeId)
    (ho : o.op = .call { callee := .builtin .copy, args := #[d, s], argTypes := #[dT, sT] }) (elem : TypeId) (hu : P.underlying dT = some (.slice elem)) (hsz : (P.info? elem).map (·.size) = some 1)
    (g off dLen dCap : Nat) (ad : Addr) (sLen sCap : Nat) (hd : a.eval d = .slice (some ⟨g, off, none⟩) dLen dCap) (hs : a.eval s = .slice (some ad) sLen sCap)
    (cur : List Value) (t : TypeId) (hg : w.heap[g]? = some (.cells cur.toArray t (0, 0))) (cs : List Value) (hn : cs.length = Nat.min sLen dLen)
    (hsrc : ∀ j v, cs[j]? = some v → w.cell? (ad.add j) = some v) (hfit : off + cs.length ≤ cur.length) (h1 : ∀ v ∈ cs, v.oneCell' = true)
    (h : ∀ w', Hid (w'.heap[g]? = some (.cells (splice cur off cs).toArray t (0, 0))) → w.grownBy w' (some g) → K (a.put o.dst (goInt cs.length)) w') : Oper.wp P o a w K Q := by
  have hrun := run_copy_row (P := P) w dT sT o.type elem g off dLen dCap ad sLen sCap cur.toArray t cs hu hsz hg hn hsrc (by simpa using hfit) h1
  unfold Oper.wp
  simp [execOp, ho, resolve, invoke, builtin, hd, hs, hrun, Result.andThen]
  exact h _ (show _ = _ by simpa [splice] using setRow_heap w g _ _ t _ hg) (grown_setRow _ _ _)

theorem wpList_copy_G {P : Program} {w : World} {ops : Array Oper} {rest : List Oper} {o : Oper} {a : Act} {Q : Exit → Act → World → Prop} (hgd : o.guard = none) (d s : Operand) (dT sT : TypeId)
    (ho : o.op = .call { callee := .builtin .copy, args := #[d, s], argTypes := #[dT, sT] }) (elem : TypeId) (hu : P.underlying dT = some (.slice elem)) (hsz : (P.info? elem).map (·.size) = some 1)
    (g off dLen dCap : Nat) (ad : Addr) (sLen sCap : Nat) (hd : a.eval d = .slice (some ⟨g, off, none⟩) dLen dCap) (hs : a.eval s = .slice (some ad) sLen sCap)
    (cur : List Value) (t : TypeId) (hg : w.heap[g]? = some (.cells cur.toArray t (0, 0))) (cs : List Value) (hn : cs.length = Nat.min sLen dLen)
    (hsrc : ∀ j v, cs[j]? = some v → w.cell? (ad.add j) = some v) (hfit : off + cs.length ≤ cur.length) (h1 : ∀ v ∈ cs, v.oneCell' = true)
    (h : ∀ w', Hid (w'.heap[g]? = some (.cells (splice cur off cs).toArray t (0, 0))) → w.grownBy w' (some g) → wpList P ops Q rest (a.put o.dst (goInt cs.length)) w') : wpList P ops Q (o :: rest) a w :=
  wpList_plain hgd fun _ hK => wp_copy_G d s dT sT ho elem hu hsz g off dLen dCap ad sLen sCap hd hs cur t hg cs hn hsrc hfit h1 fun w' h1 h2 => hK _ _ (h w' h1 h2)

theorem step_copy_G {P : Program} {ops : Array Oper} {o : Oper} {a : Act} {w : World} {K : Act → World → Prop} {Q : Exit → Act → World → Prop} {E : Prop} (hgd : o.guard = none) (d s : Operand) (dT sT : TypeId)
    (ho : o.op = .call { callee := .builtin .copy, args := #[d, s], argTypes := #[dT, sT] }) (elem : TypeId) (hu : P.underlying dT = some (.slice elem)) (hsz : (P.info? elem).map (·.size) = some 1)
    (g off dLen dCap : Nat) (ad : Addr) (sLen sCap : Nat) (hd : a.eval d = .slice (some ⟨g, off, none⟩) dLen dCap) (hs : a.eval s = .slice (some ad) sLen sCap)
    (cur : List Value) (t : TypeId) (hg : w.heap[g]? = some (.cells cur.toArray t (0, 0))) (cs : List Value) (hn : cs.length = Nat.min sLen dLen)
    (hsrc : ∀ j v, cs[j]? = some v → w.cell? (ad.add j) = some v) (hfit : off + cs.length ≤ cur.length) (h1 : ∀ v ∈ cs, v.oneCell' = true)
    (h : ∀ w', Hid (w'.heap[g]? = some (.cells (splice cur off cs).toArray t (0, 0))) → w.grownBy w' (some g) → K (a.put o.dst (goInt cs.length)) w') :
    if Region.wanted o (yielded ops a.tmps) = true then Oper.wp P o a w K Q else E := by
  rw [if_pos (by simp [Region.wanted, hgd])]
  exact wp_copy_G d s dT sT ho elem hu hsz g off dLen dCap ad sLen sCap hd hs cur t hg cs hn hsrc hfit h1 h

theorem splice_far {α : Type} {L A : List α} {i k : Nat} (h : i + A.length ≤ k) (hi : i ≤ L.length) : (splice L i A)[k]? = L[k]? := by
  unfold splice
  have h1 : (L.take i).length = i := by rw [List.length_take]; omega
  rw [List.getElem?_append_right (by omega), List.getElem?_append_right (by omega), h1, List.getElem?_drop]
  congr 1
  omega

theorem splice_near {α : Type} {L A : List α} {i k : Nat} (h : k < i) (hi : i ≤ L.length) : (splice L i A)[k]? = L[k]? := by
  unfold splice
  rw [List.getElem?_append_left (by rw [List.length_take]; omega), List.getElem?_take_of_lt h]

theorem cell_list {w : World} {g k : Nat} {cur : List Value} {t : TypeId} (h : w.heap[g]? = some (.cells cur.toArray t (0, 0))) : w.cell? ⟨g, k, none⟩ = cur[k]? := by
  rw [cell_of_row _ _ k _ _ _ h]
  simp

theorem add_cell (g off j : Nat) : (⟨g, off, none⟩ : Addr).add j = ⟨g, off + j, none⟩ := by unfold Addr.add; split <;> simp_all

theorem wpList_zeros_T {w : World} {ops : Array Oper} {rest : List Oper} {o : Oper} {a : Act} {Q : Exit → Act → World → Prop} (hgd : o.guard = none) (s x : Operand)
    (ho : o.op = .call { callee := .builtin .append, args := #[s, x], argTypes := #[55, 3] }) (g i cap k : Nat) (olds : List Value) (hs : a.eval s = .slice (some ⟨g, 0, none⟩) i cap) (hx : a.eval x = .int .i64 (k : Int))
    (hol : olds.length = i) (hold : ∀ j v, olds[j]? = some v → w.cell? ((⟨g, 0, none⟩ : Addr).add j) = some v) (h0 : 0 < k) (hgr : cap < i + k) (hb : i + k ≤ 255)
    (h : ∀ (Z : List Value) (cap2 : Nat) (w' : World), Hid (Z.length = cap2 ∧ Z.take i = olds) → i + k ≤ cap2 → cap2 ≤ maxLen → Hid (w'.heap[w.heap.size]? = some (.cells Z.toArray 23 (0, 0))) → Below w.heap.size w w' → wpList Tryd.prog ops Q rest (a.put o.dst (.slice (some ⟨w.heap.size, 0, none⟩) (i + k) cap2)) w') : wpList Tryd.prog ops Q (o :: rest) a w := by
  obtain ⟨i0, hi, hzz, hz1, hz2⟩ := info_parts info_rwT
  have hl : (Builtin.firstCells i0.size i (.slice (some ⟨g, 0, none⟩) i cap)).run Tryd.prog w.drew = .ok olds.toArray w.drew := by
    rw [hz1]
    show (loadCells ⟨g, 0, none⟩ (i * 1)).run Tryd.prog w.drew = _
    rw [Nat.mul_one, ← hol]
    exact run_loadCells_list (P := Tryd.prog) w.drew ⟨g, 0, none⟩ olds hold
  have hnx : Builtin.nextslicecap (i + k) cap * i0.bytes ≤ 281474976710656 := by
    rw [hz2]
    have : Builtin.nextslicecap (i + k) cap ≤ 510 := by
      unfold Builtin.nextslicecap
      split
      · omega
      · rw [if_pos (by omega)]
        omega
    omega
  have hrun := Lib.run_append_grow_zeros (P := Tryd.prog) w 55 3 o.type 23 i0 (.slice none 0 0) .i64 .i64 Tryd.underlying55 Tryd.underlying3 hi hzz (some ⟨g, 0, none⟩) i cap olds hl k h0 (by rw [hz1]; omega) hgr (by omega) (by rw [hz2]; omega) hnx
  have hge := grownCap_ge w (i + k) cap 23
  have hle := grownCap_le_maxLen w (i + k) cap 23 (by unfold maxLen; omega)
  have hzc : ∀ n, (Builtin.zeroCells (Value.slice none 0 0).cells n).size = n := fun n => by
    have : (Value.slice none 0 0).cells.size = 1 := rfl
    simp [Builtin.zeroCells, this]
  refine Go.Lib.wpList_append_run w hgd s x 55 3 ho _ _ hs hx _ _ hrun ?_
  refine h (olds.toArray ++ Builtin.zeroCells (Value.slice none 0 0).cells k ++ Builtin.zeroCells (Value.slice none 0 0).cells (grownCap w (i + k) cap 23 - (i + k))).toList _ _ ⟨?_, ?_⟩ hge hle ?_ ?_
  · rw [Array.length_toList, Array.size_append, Array.size_append, hzc, hzc]
    simp [hol]
    omega
  · rw [Array.toList_append, Array.toList_append, List.append_assoc]
    exact List.take_left' (by simp [hol])
  · show _ = _
    rw [Array.toArray_toList]
    exact heap_alloc_new w.drew _
  · exact (Below.drew (Below.refl w.heap.size w)).alloc (Nat.le_refl _) _
end Go.Proofs.YtbgomhgohphglaaDoor
