/- Texts of mine laid together: IRow, Four, ElApp, IntApp, ISlices, IBlock, PKey, IMark, ITake, ITake2. -/
import Derived.Test.YtddelohmppdndaaGreatDoorIEntry
import Derived.Test.YtddelohmppdndaaGreatDoorEl
import Derived.Lib.AppendZeros
import Derived.Deep.RegionLaw
import Derived.Deep.MidRow
import Derived.Shelf.Slices.Clone
import Derived.Shelf.Slices.Cells
import Derived.Test.YtddelohmppdndaaGreatDoorIClass
import Derived.Test.YtddelohmppdndaaGreatDoorNorm2
import Derived.Test.YtddelohmppdndaaGreatDoorISort
import Derived.Test.YtddelohmppdndaaGreatDoorPEnt
import Derived.Test.YtddelohmppdndaaGreatDoorSBase
import Derived.Deep.Cut
import Derived.Deep.CutRange
import Derived.Deep.RegionWith
import Derived.Deep.Upon
namespace Go.Proofs.YtddelohmppdndaaGreatDoor
open Go.RowKit

/-- A list of ints that lies somewhere. -/
def RowAt (w : World) (v : Value) (l : List Int) : Prop :=
  (∃ a c, v = .slice a 0 c ∧ l = []) ∨ ∃ g f c, v = .slice (some ⟨g, f, none⟩) l.length c ∧ g < w.heap.size ∧ ∀ j x, l[j]? = some x → w.cell? ⟨g, f + j, none⟩ = some (.int .i64 x)

theorem RowAt.below {w w' : World} {v : Value} {l : List Int} (h : RowAt w v l) (hb : Below w.heap.size w w') : RowAt w' v l := by
  rcases h with h | ⟨g, f, c, h1, h2, h3⟩
  · exact .inl h
  · exact .inr ⟨g, f, c, h1, Nat.lt_of_lt_of_le h2 hb.size, fun j x hx => by rw [hb.cell h2]; exact h3 j x hx⟩

theorem Ints.rowAt {w : World} {B : Nat} {v : Value} {l : List Int} (h : Ints w B v l) : RowAt w v l := by
  rcases h.form with ⟨rfl, rfl⟩ | ⟨g, cap, rfl, _, _⟩
  · exact .inl ⟨_, _, rfl, rfl⟩
  · refine .inr ⟨g, 0, cap, rfl, (World.ownsRow.lt h g rfl).2, fun j x hx => ?_⟩
    have hj := (List.getElem?_eq_some_iff.1 hx).1
    rw [Nat.zero_add, h.cell j hj, hx]
    rfl

theorem RowAt.slice {w : World} {v : Value} {l : List Int} (h : RowAt w v l) : ∃ a c, v = .slice a l.length c := by
  rcases h with ⟨a, c, rfl, rfl⟩ | ⟨g, f, c, rfl, _, _⟩
  · exact ⟨_, _, rfl⟩
  · exact ⟨_, _, rfl⟩

set_option maxRecDepth 100000 in
set_option maxHeartbeats 1000000 in
theorem equal_at (w : World) (g g' f cap cap' n : Nat) (za zb : List Int) (ha : za.length = n) (hb : zb.length = n) (hz : n ≤ 1048576)
    (h1 : ∀ j, j < n → w.cell? ⟨g, j, none⟩ = some (.int .i64 (za[j]?.getD 0)))
    (h2 : ∀ j, j < n → w.cell? ⟨g', f + j, none⟩ = some (.int .i64 (zb[j]?.getD 0))) :
    Calls Tryz.prog 63 #[.slice (some ⟨g, 0, none⟩) n cap, .slice (some ⟨g', f, none⟩) n cap'] w fun e w' => e = .returned (.bool (decide (za = zb))) ∧ ∃ n, w' = w.drewN n := by
  go_enter Tryz.func63, Tryz.ntmps63
  go_wp2
  go_loopw [13] (fun i wr => ∃ k nq : Nat, k ≤ n ∧ i = .int .i64 k ∧ wr = w.drewN nq ∧ Hid (EqualTo za zb k)) (fun i _ => n - (intOf i).toNat)
  case atStart => exact ⟨0, 0, Nat.zero_le _, rfl, rfl, fun j hj => by omega⟩
  case round =>
    obtain ⟨k, nq, hk, rfl, rfl, HS⟩ := hrel
    by_cases hlt : k < n
    · obtain ⟨x, hx⟩ : ∃ x, za[k]? = some x := ⟨_, List.getElem?_eq_getElem (by omega)⟩
      obtain ⟨y, hy⟩ : ∃ y, zb[k]? = some y := ⟨_, List.getElem?_eq_getElem (by omega)⟩
      have g1 := h1 k hlt
      have g2 := h2 k hlt
      rw [hx] at g1
      rw [hy] at g2
      have e1 : w.cell? ⟨g, k, none⟩ = some (.int .i64 x) := g1
      have e2 : w.cell? ⟨g', f + k, none⟩ = some (.int .i64 y) := g2
      have hz2 : (k : Int) < (n : Int) := by omega
      have HX : Hid _ := hx
      have HY : Hid _ := hy
      have HA : Hid _ := ha
      have HB : Hid _ := hb
      clear h1 h2 g1 g2 hx hy ha hb
      by_cases e : x = y
      · subst e
        have HS2 : Hid (EqualTo za zb (k + 1)) := by
          intro j hj
          by_cases e : j = k
          · subst e; rw [HX.out, HY.out]
          · exact HS.out j (by omega)
        go_wp2
        go_quiet (fail)
        go_wp2
        exact ⟨⟨k + 1, _, by omega, by go_num, rfl, HS2⟩, by simp [intOf]; omega⟩
      · have hne : (x != y) = true := by simpa using e
        have HN : Hid (false = decide (za = zb)) := by
          refine (decide_eq_false fun h => e ?_).symm
          have := HX.out
          rw [h, HY.out] at this
          exact (Option.some.inj this).symm
        clear e
        go_wp2
        go_quiet (fail)
        go_wp2
        go_ret
        exact ⟨ret_b HN.out, _, World.drewN_drewN _ _ _⟩
    · have HN : Hid (true = decide (za = zb)) := by
        refine (decide_eq_true ?_).symm
        apply List.ext_getElem?
        intro j
        by_cases hj : j < k
        · exact HS.out j hj
        · rw [List.getElem?_eq_none (by omega), List.getElem?_eq_none (by omega)]
      have HA : Hid _ := ha
      have HB : Hid _ := hb
      clear h1 h2 ha hb
      go_wp2
      go_ret
      exact ⟨ret_b HN.out, _, rfl⟩

theorem equal_rowAt {w : World} {B : Nat} {a b : Value} {za zb : List Int} (hza : za.length ≤ 1048576) (ha : Ints w B a za) (hb : RowAt w b zb) :
    Calls Tryz.prog 63 #[a, b] w fun e w' => e = .returned (.bool (decide (za = zb))) ∧ ∃ n, w' = w.drewN n := by
  by_cases h : za.length = zb.length
  · rcases ha.form with ⟨rfl, rfl⟩ | ⟨g, cap, rfl, h1, h2⟩
    · have e : zb = [] := List.eq_nil_of_length_eq_zero (by simpa using h.symm)
      subst e
      obtain ⟨x, c, rfl⟩ := hb.slice
      exact equal_none w _ _ _ _
    · rcases hb with ⟨x, c, rfl, rfl⟩ | ⟨g', f, c, rfl, _, hc⟩
      · have e : za = [] := List.eq_nil_of_length_eq_zero (by simpa using h)
        subst e
        exact equal_none w _ _ _ _
      · rw [← h]
        exact equal_at w g g' f cap c za.length za zb rfl h.symm hza (fun j hj => ha.cell j hj) (fun j hj => by
          have hj2 : j < zb.length := by omega
          rw [hc j zb[j] (List.getElem?_eq_getElem hj2), List.getElem?_eq_getElem hj2]
          rfl)
  · have e : decide (za = zb) = false := decide_eq_false (fun e => h (by rw [e]))
    rw [e]
    obtain ⟨x, c, rfl⟩ := hb.slice
    rcases ha.form with ⟨rfl, rfl⟩ | ⟨g, cap, rfl, h1, h2⟩
    · exact equal_len w _ _ _ _ _ _ (by simpa using h)
    · exact equal_len w _ _ _ _ _ _ h

set_option maxRecDepth 100000 in
set_option maxHeartbeats 4000000 in
theorem entryAt_row (w : World) (B g cap : Nat) (es : List Ent) (vl : Value) (l : List Int) (hE : Ents w B (.slice (some ⟨g, 0, none⟩) es.length cap) es) (hL : RowAt w vl l) (hn : es.length ≤ 1048576) (hr : ∀ e ∈ es, e.runes.length ≤ 1048576) :
    Calls Tryz.prog 93 #[.slice (some ⟨g, 0, none⟩) es.length cap, vl] w fun e w' => e = .returned (elRes (entOf es l)) ∧ Below w.heap.size w w' := by
  go_enter Tryz.func93, Tryz.ntmps93
  go_wp2
  go_loopw [10] (fun i wr => ERel w es l i wr) (fun i _ => es.length - (intOf i).toNat)
  case atStart => exact ⟨0, Nat.zero_le _, rfl, fun j e hj => by omega, heap_alloc_new _ _, (Below.refl _ _).alloc (Nat.le_refl _) _⟩
  case round =>
    obtain ⟨k, hk, rfl, HN0, hz, hb⟩ := hrel
    have HN : Hid (NoEnt es l k) := HN0
    clear HN0
    by_cases hlt : k < es.length
    · obtain ⟨e, he⟩ : ∃ e, es[k]? = some e := ⟨_, List.getElem?_eq_getElem hlt⟩
      obtain ⟨x, hI, a0, a1, a2, a3, a4⟩ := (hE.below hb).cells k e he
      obtain ⟨xa, xn, xc, rfl⟩ : ∃ xa xn xc, x = .slice xa xn xc := by
        rcases hI.form with ⟨rfl, _⟩ | ⟨_, _, rfl, _, _⟩
        · exact ⟨_, _, _, rfl⟩
        · exact ⟨_, _, _, rfl⟩
      have hk8 : (k : Int) < (es.length : Int) := by omega
      have hrl := hr e (List.mem_of_getElem? he)
      have hbr := (Below.refl wr.heap.size wr).alloc (Nat.le_refl _) (.cells #[.slice xa xn xc, .int .i64 e.el.first, .int .i64 e.el.second, .int .i64 e.el.third, .bool e.el.varies] 69)
      have hba := hb.trans (hbr.mono hb.size)
      have SM := equal_rowAt hrl (hI.below hbr) ((hL.below hb).below hbr)
      have HZ : Hid (Zel _ _) := hz.below hbr
      have hlt3 := hz.facts.1
      have HE : Hid _ := he
      clear he hI hE hL hr hz hbr
      go_wp2_with fail
      refine SM.mono ?_
      rintro e' w2 ⟨rfl, n2, rfl⟩
      clear SM a0 a1 a2 a3 a4
      by_cases c : e.runes = l
      · have HA : Hid (entOf es l = some e.el) := entOf_hit HN.out HE.out c
        have c' : decide (e.runes = l) = true := decide_eq_true c
        obtain ⟨hlt2, ⟨q0, q1, q2, q3⟩, f0⟩ := HZ.out.facts
        have hsz := hb.size
        clear HN HE c HZ
        go_wp2
        refine bodyPost_ret (v := .tuple #[.agg #[.int .i64 e.el.first, .int .i64 e.el.second, .int .i64 e.el.third, .bool e.el.varies], .bool true]) ?_ rfl ⟨ret_e HA.out, below_res1 (below_drewN hba n2) (Nat.le_refl _) _ _ _ _⟩
        rw [results_cell_tmp rfl]
        go_simp
      · have HN2 : Hid (NoEnt es l (k + 1)) := HN.out.succ HE.out c
        have c' : decide (e.runes = l) = false := decide_eq_false c
        clear HN HE c
        go_wp2
        exact ⟨⟨k + 1, by omega, by go_num, HN2.out, HZ.out, below_drewN hba n2⟩, by simp [intOf]; omega⟩
    · have HA : Hid (entOf es l = none) := entOf_none HN.out (by omega)
      obtain ⟨hlt2, ⟨q0, q1, q2, q3⟩, f0⟩ := hz.facts
      clear HN hE hr hz
      go_wp2
      refine bodyPost_ret (v := .tuple #[.agg #[.int .i64 0, .int .i64 0, .int .i64 0, .bool false], .bool false]) ?_ rfl ⟨ret_e0 HA.out, below_res1 hb (Nat.le_refl _) _ _ _ _⟩
      rw [results_cell_tmp rfl]
      go_simp

theorem entryAt_any {w : World} {B : Nat} {v vl : Value} {es : List Ent} {l : List Int} (hE : Ents w B v es) (hL : RowAt w vl l) (hn : es.length ≤ 1048576) (hr : ∀ e ∈ es, e.runes.length ≤ 1048576) :
    Calls Tryz.prog 93 #[v, vl] w fun e w' => e = .returned (elRes (entOf es l)) ∧ Below w.heap.size w w' := by
  rcases hE.form with ⟨rfl, rfl⟩ | ⟨g, cap, rfl, _, _, _, _⟩
  · exact entry_nil w vl l
  · exact entryAt_row w B g cap es vl l hE hL hn hr
end Go.Proofs.YtddelohmppdndaaGreatDoor

namespace Go.Proofs.YtddelohmppdndaaGreatDoor
open Go.RowKit

def elZ : El := ⟨0, 0, 0, false⟩

/-- One elem: its fourth weight, how it counts, and whether one that varies stands behind. -/
def four1 (sh beh : Bool) (e : El) : Int × El × Bool :=
  if sh = false then (65535, e, beh)
  else if e.varies = true then (e.first, elZ, true)
  else if e.first = 0 ∧ beh = true then (0, elZ, beh)
  else ((if e.first = 0 ∧ e.second = 0 ∧ e.third = 0 then 0 else 65535), e, if e.first = 0 then beh else false)

/-- What is known behind the first k elems. -/
def fourS (sh : Bool) (es : List El) : Nat → List Int × List El × Bool
  | 0 => ([], [], false)
  | k + 1 =>
    match es[k]? with
    | none => fourS sh es k
    | some e => ((fourS sh es k).1 ++ [(four1 sh (fourS sh es k).2.2 e).1], (fourS sh es k).2.1 ++ [(four1 sh (fourS sh es k).2.2 e).2.1], (four1 sh (fourS sh es k).2.2 e).2.2)

def fourths (sh : Bool) (es : List El) : List Int := (fourS sh es es.length).1
def counted (sh : Bool) (es : List El) : List El := (fourS sh es es.length).2.1

theorem fourS_succ {sh : Bool} {es : List El} {k : Nat} {e : El} {fs : List Int} {xs : List El} {b : Bool} (he : es[k]? = some e) (h : fourS sh es k = (fs, xs, b)) :
    fourS sh es (k + 1) = (fs ++ [(four1 sh b e).1], xs ++ [(four1 sh b e).2.1], (four1 sh b e).2.2) := by
  rw [fourS, he, h]

theorem fourS_len (sh : Bool) (es : List El) (k : Nat) : (fourS sh es k).1.length ≤ k ∧ (fourS sh es k).2.1.length ≤ k := by
  induction k with
  | zero => exact ⟨Nat.le_refl _, Nat.le_refl _⟩
  | succ k ih =>
    unfold fourS
    split
    · omega
    · simp; omega

theorem info_elem : (Tryz.prog.info? 67).map (fun i => (i.zero, i.size, i.bytes)) = some (some (.agg #[.int .i64 0, .int .i64 0, .int .i64 0, .bool false]), 4, 32) := by kernel_rfl

theorem elAll_snoc (es : List El) (e : El) : elAll (es ++ [e]) = elAll es ++ elC e := by simp [elAll]

theorem Elems.snoc {w : World} {B : Nat} {v : Value} {es : List El} {e : El} (h : w.ownsRow B 67 4 v (es.length + 1) (elAll es ++ elC e)) : Elems w B v (es ++ [e]) := by
  unfold Elems
  rw [elAll_snoc, List.length_append]
  exact h

theorem cells4_at (w : World) (n : Nat) (e : El) (t : TypeId) (hn : n = w.heap.size) : ∀ j u, (elC e)[j]? = some u → (w.alloc (.cells #[.int .i64 e.first, .int .i64 e.second, .int .i64 e.third, .bool e.varies] t)).cell? ((⟨n, 0, none⟩ : Addr).add j) = some u := by
  subst hn
  intro j u hj
  match j, hj with
  | 0, hj => simp [elC] at hj; subst hj; simp [Addr.add]
  | 1, hj => simp [elC] at hj; subst hj; simp [Addr.add]
  | 2, hj => simp [elC] at hj; subst hj; simp [Addr.add]
  | 3, hj => simp [elC] at hj; subst hj; simp [Addr.add]
  | j + 4, hj => simp [elC] at hj

theorem cells1_at (w : World) (n : Nat) (x : Value) (t : TypeId) (hn : n = w.heap.size) : ∀ j u, [x][j]? = some u → (w.alloc (.cells #[x] t)).cell? ((⟨n, 0, none⟩ : Addr).add j) = some u := by
  subst hn
  intro j u hj
  match j, hj with
  | 0, hj => simp at hj; subst hj; simp [Addr.add]

theorem four1_plain {b : Bool} {e : El} : four1 false b e = (65535, e, b) := by simp [four1]
theorem four1_var {b : Bool} {e : El} (h : e.varies = true) : four1 true b e = (e.first, elZ, true) := by simp [four1, h]
theorem four1_gone {e : El} (h : e.varies = false) (h0 : e.first = 0) : four1 true true e = (0, elZ, true) := by simp [four1, h, h0]
theorem four1_first {b : Bool} {e : El} (h : e.varies = false) (h0 : e.first ≠ 0) : four1 true b e = (65535, e, false) := by simp [four1, h, h0]
theorem four1_zero {e : El} (h : e.varies = false) (h0 : e.first = 0) (h1 : e.second = 0) (h2 : e.third = 0) : four1 true false e = (0, e, false) := by simp [four1, h, h0, h1, h2]
theorem four1_some {e : El} (h : e.varies = false) (h0 : e.first = 0) (h1 : ¬ (e.second = 0 ∧ e.third = 0)) : four1 true false e = (65535, e, false) := by simp [four1, h, h0, h1]
end Go.Proofs.YtddelohmppdndaaGreatDoor

namespace Go.Proofs.YtddelohmppdndaaGreatDoor
open Go.RowKit

theorem run_append_none {P : Program} (w : World) (t ty e : TypeId) (i : TypeInfo) (ht : P.underlying t = some (.slice e)) (hi : P.info? e = some i) (b : Option Addr) (n c : Nat) (hle : n ≤ c) :
    (Builtin.append_ #[t, t] ty #[.slice b n c, .slice none 0 0]).run P w = .ok (.slice b n c) w := by
  cases b <;> simp [Builtin.append_, run_underlying ht, sizeOf, typeInfo, hi, hle, storeCells, Builtin.lenOf, Builtin.firstCells]

theorem elAll_app (es fs : List El) : elAll (es ++ fs) = elAll es ++ elAll fs := by simp [elAll]

theorem elAll_one (es : List El) : ∀ u ∈ elAll es, u.oneCell' = true := by
  intro u hu
  unfold elAll at hu
  obtain ⟨e, _, he⟩ := List.mem_flatMap.1 hu
  simp [elC] at he
  rcases he with rfl | rfl | rfl | rfl <;> rfl

theorem append_els {w : World} {ops : Array Oper} {rest : List Oper} {o : Oper} {a : Act} {Q : Exit → Act → World → Prop} (hgd : o.guard = none) (s x : Operand)
    (ho : o.op = .call { callee := .builtin .append, args := #[s, x], argTypes := #[81, 81] }) (B B' : Nat) (v vx : Value) (es fs : List El) (hs : a.eval s = v) (hx : a.eval x = vx) (hE : Elems w B v es) (hF : Elems w B' vx fs)
    (h63 : es.length + fs.length ≤ 1048576) (hbase : B ≤ w.heap.size) (h : ∀ v' w', Elems w' B v' (es ++ fs) → w.grownBy w' v.ownBlock → wpList Tryz.prog ops Q rest (a.put o.dst v') w') : wpList Tryz.prog ops Q (o :: rest) a w := by
  obtain ⟨i1, hi1, hz1, hs1, hy1⟩ := info_parts info_elem
  rcases hF.form with ⟨rfl, rfl⟩ | ⟨g, cap, rfl, _, _⟩
  · obtain ⟨b, n, c, rfl, hnc⟩ : ∃ b n c, v = .slice b n c ∧ n ≤ c := by
      rcases hE.form with ⟨rfl, rfl⟩ | ⟨g, cap, rfl, h1, _⟩
      · exact ⟨_, _, _, rfl, Nat.le_refl _⟩
      · exact ⟨_, _, _, rfl, h1⟩
    refine Go.Lib.wpList_append_run w hgd s x 81 81 ho _ _ hs hx _ _ (run_append_none w _ _ _ i1 Tryz.underlying81 hi1 b n c hnc) ?_
    refine h _ _ ?_ ⟨rfl, rfl, rfl, Nat.le_refl _, fun _ _ _ => rfl⟩
    rw [List.append_nil]
    exact hE
  · refine wpList_append_own w hgd s x 81 ho B 67 i1 _ 4 32 Tryz.underlying81 hi1 hz1 hs1 hy1 rfl (by decide) v es.length (elAll es) hs hE ⟨g, 0, none⟩ fs.length cap (elAll fs) hx (elAll_len fs) (fun j u hj => ?_) (elAll_one fs) (by unfold maxLen; omega) (by omega) hbase (fun v' w' h1 h2 _ => h v' w' ?_ h2)
    · have hjl : j < fs.length * 4 := by
        have := (List.getElem?_eq_some_iff.1 hj).1
        rw [elAll_len] at this
        exact this
      have := World.ownsRow.cellAt hF j hjl
      rw [hj] at this
      show w.cell? ((⟨g, 0, none⟩ : Addr).add j) = some u
      rw [← this]
      unfold Addr.add
      split
      · rename_i h0; subst h0; rfl
      · simp
    · unfold Elems
      rw [elAll_app, List.length_append]
      exact h1
end Go.Proofs.YtddelohmppdndaaGreatDoor

namespace Go.Proofs.YtddelohmppdndaaGreatDoor
open Go.RowKit

theorem run_append_none1 {P : Program} (w : World) (t ty e : TypeId) (i : TypeInfo) (ht : P.underlying t = some (.slice e)) (hi : P.info? e = some i) (b : Option Addr) (n c c' : Nat) (hle : n ≤ c) :
    (Builtin.append_ #[t, t] ty #[.slice b n c, .slice none 0 c']).run P w = .ok (.slice b n c) w := by
  cases b <;> simp [Builtin.append_, run_underlying ht, sizeOf, typeInfo, hi, hle, storeCells, Builtin.lenOf, Builtin.firstCells]

theorem wp_append_ints {w : World} {o : Oper} {a : Act} {K : Act → World → Prop} {Q : Exit → Act → World → Prop} (s x : Operand)
    (ho : o.op = .call { callee := .builtin .append, args := #[s, x], argTypes := #[39, 39] }) (B : Nat) (v vx : Value) (l l' : List Int) (hs : a.eval s = v) (hx : a.eval x = vx) (hI : Ints w B v l) (hR : RowAt w vx l')
    (h63 : l.length + l'.length ≤ 1048576) (hbase : B ≤ w.heap.size) (h : ∀ v' w', Ints w' B v' (l ++ l') → w.grownBy w' v.ownBlock → K (a.put o.dst v') w') : Oper.wp Tryz.prog o a w K Q := by
  obtain ⟨i0, hi, hzz, hz1, hz2⟩ := info_parts info_int
  have app : ∀ (ad : Addr) (c : Nat), vx = .slice (some ad) l'.length c → (∀ j u, (l'.map (Value.int .i64))[j]? = some u → w.cell? (ad.add j) = some u) → Oper.wp Tryz.prog o a w K Q := fun ad c hv hc => by
    refine wp_append_own w s x 39 ho B 3 i0 (.int .i64 0) 1 8 Tryz.underlying39 hi hzz hz1 hz2 rfl (by decide) v l.length (l.map (Value.int .i64)) hs hI ad l'.length c (l'.map (Value.int .i64)) (hx.trans hv) (by simp) hc (fun u hu => by obtain ⟨y, _, rfl⟩ := List.mem_map.1 hu; rfl) (by unfold maxLen; omega) (by omega) hbase fun v' w' h1 h2 _ => h v' w' ?_ h2
    unfold Ints
    rw [List.length_append, List.map_append]
    exact h1
  rcases hR with ⟨b, c, hv, rfl⟩ | ⟨g, f, c, hv, _, hc⟩
  · cases b with
    | none =>
      obtain ⟨b, n, c', rfl, hnc⟩ : ∃ b n c, v = .slice b n c ∧ n ≤ c := by
        rcases hI.form with ⟨rfl, rfl⟩ | ⟨g, cap, rfl, h1, _⟩
        · exact ⟨_, _, _, rfl, Nat.le_refl _⟩
        · exact ⟨_, _, _, rfl, h1⟩
      refine Go.Lib.wp_append_run w s x 39 39 ho _ _ hs (hx.trans hv) _ _ (run_append_none1 w _ _ _ i0 Tryz.underlying39 hi b n c' c hnc) ?_
      refine h _ _ ?_ ⟨rfl, rfl, rfl, Nat.le_refl _, fun _ _ _ => rfl⟩
      rw [List.append_nil]
      exact hI
    | some ad => exact app ad c hv (fun j u hj => by simp at hj)
  · refine app ⟨g, f, none⟩ c hv fun j u hj => ?_
    rw [List.getElem?_map, Option.map_eq_some_iff] at hj
    obtain ⟨y, hy, rfl⟩ := hj
    rw [Addr.add_mid]
    exact hc j y hy

theorem append_ints {w : World} {ops : Array Oper} {rest : List Oper} {o : Oper} {a : Act} {Q : Exit → Act → World → Prop} (hgd : o.guard = none) (s x : Operand)
    (ho : o.op = .call { callee := .builtin .append, args := #[s, x], argTypes := #[39, 39] }) (B : Nat) (v vx : Value) (l l' : List Int) (hs : a.eval s = v) (hx : a.eval x = vx) (hI : Ints w B v l) (hR : RowAt w vx l')
    (h63 : l.length + l'.length ≤ 1048576) (hbase : B ≤ w.heap.size) (h : ∀ v' w', Ints w' B v' (l ++ l') → w.grownBy w' v.ownBlock → wpList Tryz.prog ops Q rest (a.put o.dst v') w') : wpList Tryz.prog ops Q (o :: rest) a w :=
  wpList_plain hgd fun _ hK => wp_append_ints s x ho B v vx l l' hs hx hI hR h63 hbase fun v' w' h1 h2 => hK _ _ (h v' w' h1 h2)

theorem step_append_ints {w : World} {ops : Array Oper} {o : Oper} {a : Act} {K : Act → World → Prop} {Q : Exit → Act → World → Prop} {E : Prop} (hgd : o.guard = none) (s x : Operand)
    (ho : o.op = .call { callee := .builtin .append, args := #[s, x], argTypes := #[39, 39] }) (B : Nat) (v vx : Value) (l l' : List Int) (hs : a.eval s = v) (hx : a.eval x = vx) (hI : Ints w B v l) (hR : RowAt w vx l')
    (h63 : l.length + l'.length ≤ 1048576) (hbase : B ≤ w.heap.size) (h : ∀ v' w', Ints w' B v' (l ++ l') → w.grownBy w' v.ownBlock → K (a.put o.dst v') w') :
    if Region.wanted o (yielded ops a.tmps) = true then Oper.wp Tryz.prog o a w K Q else E := by
  rw [if_pos (by simp [Region.wanted, hgd])]
  exact wp_append_ints s x ho B v vx l l' hs hx hI hR h63 hbase h

theorem Ints.take {w : World} {B g cap : Nat} {l : List Int} (h : Ints w B (.slice (some ⟨g, 0, none⟩) l.length cap) l) (k : Nat) (hk : k ≤ l.length) : Ints w B (.slice (some ⟨g, 0, none⟩) k cap) (l.take k) := by
  have hlk : (l.take k).length = k := by rw [List.length_take]; omega
  rcases h.2 with ⟨a, _⟩ | ⟨g', cap', cur, a, b, c, d, e, f, f2⟩
  · cases a
  · injection a with a1 a2 a3
    injection a1 with a4
    injection a4 with a5
    subst a5
    subst a3
    refine ⟨by simp, .inr ⟨g, cap, cur, by rw [hlk], b, c, by omega, e, f, ?_⟩⟩
    rw [hlk, List.map_take, ← f2, List.take_take]
    simp
    omega

/-- An empty list that was laid just now. -/
theorem ints_lit0 (w : World) (B : Nat) (hB : B ≤ w.heap.size) : Ints (w.alloc (.cells #[] 3)) B (.slice (some ⟨w.heap.size, 0, none⟩) 0 0) [] :=
  ⟨rfl, .inr ⟨w.heap.size, 0, #[], rfl, hB, heap_alloc_new _ _, Nat.le_refl _, Nat.zero_le _, rfl, rfl⟩⟩
end Go.Proofs.YtddelohmppdndaaGreatDoor

namespace Go.Proofs.YtddelohmppdndaaGreatDoor
open Go.RowKit

def sl15_ren : Go.Shelf.Ren := ⟨fun | 15 => 84 | n => n, fun | 3 => 3 | 4 => 4 | 22 => 39 | n => n, fun | n => n⟩
theorem sl15 : Go.Proofs.Lays2.n15 Tryz.prog sl15_ren := {
  mixed := by kernel_rfl
  f15 := Tryz.func84.trans (congrArg some (by kernel_rfl))
  t3 := Tryz.underlying3
  a3 := Tryz.isAgg3
  z3 := Tryz.sizeOf3
  v3 := Tryz.zeroValue3
  t4 := Tryz.underlying4
  a4 := Tryz.isAgg4
  z4 := Tryz.sizeOf4
  v4 := Tryz.zeroValue4
  t22 := Tryz.underlying39
  a22 := Tryz.isAgg39
  z22 := Tryz.sizeOf39
  v22 := Tryz.zeroValue39
  i3 := info_int }
def sl23_ren : Go.Shelf.Ren := ⟨fun | 23 => 96 | n => n, fun | 0 => 0 | 3 => 3 | 4 => 4 | 22 => 39 | n => n, fun | n => n⟩
theorem sl23 : Go.Proofs.Lays2.n23 Tryz.prog sl23_ren := {
  mixed := by kernel_rfl
  f23 := Tryz.func96.trans (congrArg some (by kernel_rfl))
  t0 := Tryz.underlying0
  a0 := Tryz.isAgg0
  z0 := Tryz.sizeOf0
  v0 := Tryz.zeroValue0
  t3 := Tryz.underlying3
  a3 := Tryz.isAgg3
  z3 := Tryz.sizeOf3
  v3 := Tryz.zeroValue3
  t4 := Tryz.underlying4
  a4 := Tryz.isAgg4
  z4 := Tryz.sizeOf4
  v4 := Tryz.zeroValue4
  t22 := Tryz.underlying39
  a22 := Tryz.isAgg39
  z22 := Tryz.sizeOf39
  v22 := Tryz.zeroValue39
  i3 := info_int }

theorem clone_at (w : World) (g f c : Nat) (l : List Int) (hl : l.length ≤ 1048576) (hc : ∀ j x, l[j]? = some x → w.cell? ⟨g, f + j, none⟩ = some (.int .i64 x)) :
    Calls Tryz.prog 84 #[.slice (some ⟨g, f, none⟩) l.length c] w fun e w' => ∃ v, e = .returned v ∧ Ints w' w.heap.size v l ∧ Below w.heap.size w w' := by
  refine (Go.Proofs.Any.slices_Clone_int sl15 g f l.length c l w (Nat.le_refl _) (by omega) (fun j hj => by
    rw [hc j l[j] (List.getElem?_eq_getElem hj), List.getD_eq_getElem?_getD, List.getElem?_eq_getElem hj]; rfl)).mono ?_
  rintro e w' ⟨v, rfl, h1, _, h2⟩
  rw [List.take_length] at h1
  exact ⟨v, rfl, h1, h2⟩

theorem delete_at (w : World) (g f c k : Nat) (l : List Int) (hk : k < l.length) (hcap : l.length ≤ c) (hm : c ≤ maxLen) (hc : ∀ j x, l[j]? = some x → w.cell? ⟨g, f + j, none⟩ = some (.int .i64 x)) (hf : ∀ j, w.frozen? ⟨g, j, none⟩ = false) :
    Calls Tryz.prog 96 #[.slice (some ⟨g, f, none⟩) l.length c, .int .i64 k, .int .i64 ((k : Int) + 1)] w fun e w' => e = .returned (.slice (some ⟨g, f, none⟩) (l.eraseIdx k).length c) ∧ ∃ q, w' = (w.drewN q).setCells g f ((l.eraseIdx k ++ [0]).map (Value.int .i64)) := by
  have h := Go.Proofs.Any.slices_Delete_int_cells sl23 g f l.length c k (k + 1) l w (Nat.le_refl _) hcap (by unfold maxLen at hm; omega) (by omega) (by omega) (fun j hj => by
    rw [hc j l[j] (List.getElem?_eq_getElem hj), List.getD_eq_getElem?_getD, List.getElem?_eq_getElem hj]; rfl) (fun j _ => hf _)
  have e1 : (((k + 1 : Nat) : Int)) = (k : Int) + 1 := by omega
  rw [e1] at h
  refine h.mono ?_
  rintro e w' ⟨rfl, q, rfl⟩
  refine ⟨?_, q, ?_⟩
  · rw [List.length_eraseIdx_of_lt hk]
    have : l.length - (k + 1 - k) = l.length - 1 := by omega
    rw [this]
  · rw [List.take_length, List.eraseIdx_eq_take_drop_succ]
    have : k + 1 - k = 1 := by omega
    rw [this]
    rfl

set_option maxRecDepth 100000 in
set_option maxHeartbeats 1000000 in
/-- slices.Grow of nothing: an empty list of the call's own. -/
theorem grow_nil (w : World) (n : Nat) (h0 : 0 < n) (hn : n ≤ 1048576) :
    Calls Tryz.prog 98 #[.slice none 0 0, .int .i64 n] w fun e w' => ∃ v, e = .returned v ∧ Ints w' w.heap.size v [] ∧ Below w.heap.size w w' := by
  obtain ⟨i0, hi, hzz, hz1, hz2⟩ := info_parts info_int
  have hn8 : (0 : Int) < (n : Int) := by omega
  go_enter Tryz.func98, Tryz.ntmps98
  go_wp2_with (at_builtin; refine Go.Lib.wpList_append_run _ rfl _ _ 39 3 rfl _ _ rfl rfl _ _ (Go.Lib.run_append_nil_zeros _ 39 3 _ 3 i0 (.int .i64 0) .i64 .i64 Tryz.underlying39 Tryz.underlying3 hi hzz n h0 (by rw [hz1]; decide) (by omega) (by rw [hz2]; omega)) ?_)
  go_ret
  refine ⟨_, rfl, ⟨rfl, .inr ⟨w.heap.size, _, _, rfl, Nat.le_refl _, heap_alloc_new _ _, Nat.zero_le _, grownCap_le_maxLen w n 0 _ (by unfold maxLen; omega), ?_, rfl⟩⟩, ((Below.refl _ _).alloc (Nat.le_refl _) _).drew⟩
  have := grownCap_ge w n 0 3
  rw [Array.size_append, size_zeroCells, size_zeroCells]
  simp
  omega

theorem cells_src {w : World} {g f : Nat} {l : List Int} (hc : ∀ j x, l[j]? = some x → w.cell? ⟨g, f + j, none⟩ = some (.int .i64 x)) : ∀ j u, (l.map (Value.int .i64))[j]? = some u → w.cell? ((⟨g, f, none⟩ : Addr).add j) = some u := by
  intro j u hj
  rw [List.getElem?_map, Option.map_eq_some_iff] at hj
  obtain ⟨x, hx, rfl⟩ := hj
  rw [Addr.add_mid]
  exact hc j x hx

theorem Ints.app {w : World} {B : Nat} {v : Value} {l l' : List Int} {n : Nat} (hn : l.length = n) (h : w.ownsRow B 3 1 v (n + l'.length) (l.map (Value.int .i64) ++ l'.map (Value.int .i64))) : Ints w B v (l ++ l') := by
  unfold Ints
  rw [List.length_append, List.map_append, hn]
  exact h

set_option maxRecDepth 100000 in
set_option maxHeartbeats 2000000 in
theorem concat_two (w : World) (tb g1 f1 c1 g2 f2 c2 : Nat) (l1 l2 : List Int) (hh : w.heap[tb]? = some (.cells #[.slice (some ⟨g1, f1, none⟩) l1.length c1, .slice (some ⟨g2, f2, none⟩) l2.length c2] 39))
    (hg1 : g1 < w.heap.size) (hg2 : g2 < w.heap.size) (h1 : 1 ≤ l1.length) (hl1 : l1.length ≤ 4000) (hl2 : l2.length ≤ 4000)
    (hc1 : ∀ j x, l1[j]? = some x → w.cell? ⟨g1, f1 + j, none⟩ = some (.int .i64 x)) (hc2 : ∀ j x, l2[j]? = some x → w.cell? ⟨g2, f2 + j, none⟩ = some (.int .i64 x)) :
    Calls Tryz.prog 85 #[.slice (some ⟨tb, 0, none⟩) 2 2] w fun e w' => ∃ v, e = .returned v ∧ Ints w' w.heap.size v (l1 ++ l2) ∧ Below w.heap.size w w' := by
  obtain ⟨i0, hi, hzz, hz1, hz2⟩ := info_parts info_int
  have q0 := cell_of_row _ _ 0 _ _ _ hh
  have q1 := cell_of_row _ _ 1 _ _ _ hh
  have hhl : tb < w.heap.size := (Array.getElem?_eq_some_iff.1 hh).1
  have HC1 : Hid _ := hc1
  have HC2 : Hid _ := hc2
  have G := fun u => grow_nil u (l1.length + l2.length) (by omega) (by omega)
  rw [show ((l1.length + l2.length : Nat) : Int) = (l1.length : Int) + (l2.length : Int) by omega] at G
  clear hc1 hc2 hh
  go_enter Tryz.func85, Tryz.ntmps85
  go_wp2
  go_loop [3, 11] (fun s i => (s = .int .i64 0 ∧ i = .int .i64 0) ∨ (s = .int .i64 (l1.length : Int) ∧ i = .int .i64 1) ∨ (s = .int .i64 ((l1.length : Int) + (l2.length : Int)) ∧ i = .int .i64 2)) (fun _ i => 2 - (intOf i).toNat)
  case atStart => exact .inl ⟨rfl, rfl⟩
  case round =>
    rcases hrel with ⟨rfl, rfl⟩ | ⟨rfl, rfl⟩ | ⟨rfl, rfl⟩
    · go_wp2
      exact ⟨.inr (.inl ⟨by go_num, rfl⟩), by simp [intOf]⟩
    · go_wp2
      exact ⟨.inr (.inr ⟨by go_num, rfl⟩), by simp [intOf]⟩
    · go_wp2_with fail
      refine (G _).mono ?_
      rintro e w1 ⟨v1, rfl, i1, b1⟩
      clear G
      have r0 : w1.cell? ⟨tb, 0, none⟩ = _ := (b1.cell hhl).trans q0
      have r1 : w1.cell? ⟨tb, 1, none⟩ = _ := (b1.cell hhl).trans q1
      go_wp2_with fail
      go_loopw [6, 27] (fun v i wr => (i = .int .i64 0 ∧ Ints wr w.heap.size v [] ∧ Below w.heap.size w wr) ∨ (i = .int .i64 1 ∧ Ints wr w.heap.size v l1 ∧ Below w.heap.size w wr) ∨ (i = .int .i64 2 ∧ Ints wr w.heap.size v (l1 ++ l2) ∧ Below w.heap.size w wr)) (fun _ i _ => 2 - (intOf i).toNat)
      case atStart => exact .inl ⟨rfl, i1, b1⟩
      case round =>
        clear i1 b1 r0 r1
        rcases hrel with ⟨rfl, i2, b2⟩ | ⟨rfl, i2, b2⟩ | ⟨rfl, i2, b2⟩
        · have r0 : wr.cell? ⟨tb, 0, none⟩ = _ := (b2.cell hhl).trans q0
          have hsrc := cells_src (w := wr) (fun j x hx => (b2.cell hg1).trans (HC1.out j x hx))
          have hsz := b2.size
          go_wp2_with (at_builtin; refine wpList_append_own _ rfl _ _ 39 rfl w.heap.size 3 i0 (.int .i64 0) 1 8 Tryz.underlying39 hi hzz hz1 hz2 rfl (by decide) _ _ _ rfl i2 ⟨g1, f1, none⟩ l1.length c1 (l1.map (Value.int .i64)) rfl (by simp) hsrc (fun u hu => by obtain ⟨x, _, rfl⟩ := List.mem_map.1 hu; rfl) (by unfold maxLen; simp; omega) (by simp; omega) (by omega) ?_)
          intro v3 w3 ho3 hg3 _
          have i3 : Ints w3 w.heap.size v3 l1 := ho3
          have b3 : Below w.heap.size w w3 := Below.grown b2 hg3 b2.size (fun j hj => (World.ownsRow.lt i2 j hj).1)
          have I3 : Hid (Ints _ _ _ _) := i3
          have B3 : Hid (Below _ _ _) := b3
          clear ho3 hg3 i3 b3 i2 b2 hsrc r0
          go_wp2
          exact ⟨.inr (.inl ⟨rfl, I3.out, B3.out⟩), by simp [intOf]⟩
        · have r1 : wr.cell? ⟨tb, 1, none⟩ = _ := (b2.cell hhl).trans q1
          have hsrc := cells_src (w := wr) (fun j x hx => (b2.cell hg2).trans (HC2.out j x hx))
          have hsz := b2.size
          go_wp2_with (at_builtin; refine wpList_append_own _ rfl _ _ 39 rfl w.heap.size 3 i0 (.int .i64 0) 1 8 Tryz.underlying39 hi hzz hz1 hz2 rfl (by decide) _ _ _ rfl i2 ⟨g2, f2, none⟩ l2.length c2 (l2.map (Value.int .i64)) rfl (by simp) hsrc (fun u hu => by obtain ⟨x, _, rfl⟩ := List.mem_map.1 hu; rfl) (by unfold maxLen; omega) (by omega) (by omega) ?_)
          intro v3 w3 ho3 hg3 _
          have i3 : Ints w3 w.heap.size v3 (l1 ++ l2) := Ints.app rfl ho3
          have b3 : Below w.heap.size w w3 := Below.grown b2 hg3 b2.size (fun j hj => (World.ownsRow.lt i2 j hj).1)
          have I3 : Hid (Ints _ _ _ _) := i3
          have B3 : Hid (Below _ _ _) := b3
          clear ho3 hg3 i3 b3 i2 b2 hsrc r1
          go_wp2
          exact ⟨.inr (.inr ⟨rfl, I3.out, B3.out⟩), by simp [intOf]⟩
        · have I3 : Hid (Ints _ _ _ _) := i2
          have B3 : Hid (Below _ _ _) := b2
          clear i2 b2
          go_wp2
          go_ret
          exact ⟨_, rfl, I3.out, B3.out⟩
end Go.Proofs.YtddelohmppdndaaGreatDoor

namespace Go.Proofs.YtddelohmppdndaaGreatDoor
open Go.RowKit

/-- Whether one of these blocks r. -/
def blk (l : List Int) (r : Int) : Bool := l.any fun b => cls b == 0 || decide (cls r ≤ cls b)

theorem freeI_blk (s : List Int × Nat) (r : Int) (h : 0 < s.2) : freeI s r = !blk (s.1.drop s.2) r := by
  unfold freeI blk
  cases hb : (s.1.drop s.2).any fun b => cls b == 0 || decide (cls r ≤ cls b) with
  | false =>
    simp only [Bool.not_false]
    refine decide_eq_true ⟨h, fun b hb2 => ?_⟩
    have := (List.any_eq_false.1 hb) b hb2
    simpa using this
  | true =>
    simp only [Bool.not_true]
    refine decide_eq_false fun c => ?_
    obtain ⟨b, hb1, hb2⟩ := List.any_eq_true.1 hb
    exact c.2 b hb1 (by simpa using hb2)

def BlkTo (l : List Int) (r : Int) (k : Nat) : Prop := ∀ j b, j < k → l[j]? = some b → ¬ (cls b = 0 ∨ cls r ≤ cls b)

theorem blk_hit {l : List Int} {r b : Int} {k : Nat} (hb : l[k]? = some b) (h : cls b = 0 ∨ cls r ≤ cls b) : blk l r = true :=
  List.any_eq_true.2 ⟨b, List.mem_of_getElem? hb, by simpa using h⟩
theorem blk_none {l : List Int} {r : Int} {k : Nat} (h : BlkTo l r k) (hk : ¬ k < l.length) : blk l r = false := by
  refine List.any_eq_false.2 fun b hb => ?_
  obtain ⟨j, hj⟩ := List.mem_iff_getElem?.1 hb
  have := (List.getElem?_eq_some_iff.1 hj).1
  simpa using h j b (by omega) hj
theorem BlkTo.succ {l : List Int} {r b : Int} {k : Nat} (h : BlkTo l r k) (hb : l[k]? = some b) (hn : ¬ (cls b = 0 ∨ cls r ≤ cls b)) : BlkTo l r (k + 1) := by
  intro j c hj hc
  by_cases e : j = k
  · subst e; rw [hb] at hc; cases hc; exact hn
  · exact h j c (by omega) hc

def BRel (w : World) (l : List Int) (r : Int) (i : Value) (wr : World) : Prop := ∃ k : Nat, k ≤ l.length ∧ i = .int .i64 k ∧ BlkTo l r k ∧ Below w.heap.size w wr

set_option maxRecDepth 100000 in
set_option maxHeartbeats 2000000 in
theorem blocked_any (w : World) (g f c : Nat) (l : List Int) (r : Int) (hl : l.length ≤ 1048576) (hg : g < w.heap.size) (hc : ∀ j b, l[j]? = some b → w.cell? ⟨g, f + j, none⟩ = some (.int .i64 b)) (hm : Held w 0 marksF) :
    Calls Tryz.prog 103 #[.slice (some ⟨g, f, none⟩) l.length c, .int .i64 r] w fun e w' => e = .returned (.bool (blk l r)) ∧ Below w.heap.size w w' := by
  have C0 := implClass_any r w hm
  go_enter Tryz.func103, Tryz.ntmps103
  go_wp2_with fail
  refine C0.mono ?_
  rintro e w1 ⟨rfl, hb1⟩
  clear C0
  go_wp2_with fail
  go_loopw [13] (fun i wr => BRel w l r i wr) (fun i _ => l.length - (intOf i).toNat)
  case atStart => exact ⟨0, Nat.zero_le _, rfl, fun j b hj => by omega, hb1⟩
  case round =>
    clear hb1
    obtain ⟨k, hk, rfl, HB0, hb⟩ := hrel
    have HB : Hid (BlkTo l r k) := HB0
    clear HB0
    by_cases hlt : k < l.length
    · obtain ⟨b, hx⟩ : ∃ b, l[k]? = some b := ⟨_, List.getElem?_eq_getElem hlt⟩
      have c1 := hc k b hx
      rw [← hb.cell (p := ⟨g, f + k, none⟩) hg] at c1
      have CC := implClass_any b wr (hm.below hb hm.lt)
      have hk8 : (k : Int) < (l.length : Int) := by omega
      have HX : Hid _ := hx
      clear hx
      go_wp2_with fail
      refine CC.mono ?_
      rintro e w2 ⟨rfl, hb2⟩
      have hbb := hb.trans (hb2.mono hb.size)
      clear CC c1 hb2 hb hc
      by_cases e1 : cls b = 0
      · have HY : Hid (true = blk l r) := (blk_hit HX.out (.inl e1)).symm
        have e1' : (cls b == 0) = true := by simpa using e1
        clear HB HX e1
        go_wp2
        go_ret
        exact ⟨ret_b HY.out, hbb⟩
      · have e1' : (cls b == 0) = false := by simpa using e1
        by_cases e2 : cls r ≤ cls b
        · have HY : Hid (true = blk l r) := (blk_hit HX.out (.inr e2)).symm
          clear HB HX e1
          go_wp2
          go_ret
          exact ⟨ret_b HY.out, hbb⟩
        · have HN : Hid (BlkTo l r (k + 1)) := HB.out.succ HX.out (fun h => h.elim e1 e2)
          have e2' : decide (cls r ≤ cls b) = false := by simpa using e2
          clear HB HX e1 e2
          go_wp2
          exact ⟨⟨k + 1, by omega, by go_num, HN.out, hbb⟩, by simp [intOf]; omega⟩
    · have HY : Hid (false = blk l r) := (blk_none HB.out hlt).symm
      clear HB hc
      go_wp2
      go_ret
      exact ⟨ret_b HY.out, hb⟩

set_option maxRecDepth 100000 in
set_option maxHeartbeats 1000000 in
theorem blocked_none (w : World) (a : Option Addr) (c : Nat) (r : Int) (hm : Held w 0 marksF) :
    Calls Tryz.prog 103 #[.slice a 0 c, .int .i64 r] w fun e w' => e = .returned (.bool false) ∧ Below w.heap.size w w' := by
  have C0 := implClass_any r w hm
  go_enter Tryz.func103, Tryz.ntmps103
  go_wp2_with fail
  refine C0.mono ?_
  rintro e w1 ⟨rfl, hb1⟩
  clear C0
  go_wp2_with fail
  go_loopw [13] (fun i wr => i = .int .i64 0 ∧ Below w.heap.size w wr) (fun _ _ => 0)
  case atStart => exact ⟨rfl, hb1⟩
  case round =>
    clear hb1
    obtain ⟨rfl, hb⟩ := hrel
    go_wp2
    go_ret
    exact ⟨rfl, hb⟩
end Go.Proofs.YtddelohmppdndaaGreatDoor

namespace Go.Proofs.YtddelohmppdndaaGreatDoor

/-- Whether a mark at place k of what is left is blocked. -/
def blkB (rest : List Int) (k : Nat) (c : Int) : Bool := (rest.take k).any fun x => decide (c ≤ cls x)

def markFrom (es : List Ent) (run rest : List Int) : List Int → Nat → Int
  | [], _ => -1
  | m :: ms, k => if cls m = 0 then -1 else if blkB rest k (cls m) = false ∧ 0 ≤ atE es (run ++ [m]) then (k : Int) else markFrom es run rest ms (k + 1)

/-- The place of the mark that goes into the run next; less than 0: none. -/
def markAt (es : List Ent) (run rest : List Int) : Int := markFrom es run rest rest 0

theorem int_drop {l : List Int} {k : Nat} {x : Int} (h : l[k]? = some x) : l.drop k = x :: l.drop (k + 1) := by
  obtain ⟨hk, rfl⟩ := List.getElem?_eq_some_iff.1 h
  exact List.drop_eq_getElem_cons hk

theorem blk_step {rest : List Int} {j : Nat} {c x : Int} (h : rest[j]? = some x) : blkB rest (j + 1) c = (blkB rest j c || decide (c ≤ cls x)) := by
  unfold blkB
  rw [List.take_add_one, h]
  simp

theorem markFrom_cases (es : List Ent) (run rest : List Int) (ms : List Int) (k : Nat) : markFrom es run rest ms k = -1 ∨ ∃ j : Nat, k ≤ j ∧ j < k + ms.length ∧ markFrom es run rest ms k = (j : Int) := by
  induction ms generalizing k with
  | nil => exact .inl rfl
  | cons m ms ih =>
    unfold markFrom
    split
    · exact .inl rfl
    · split
      · exact .inr ⟨k, Nat.le_refl _, by simp, rfl⟩
      · rcases ih (k + 1) with h | ⟨j, h1, h2, h3⟩
        · exact .inl h
        · exact .inr ⟨j, by omega, by simp; omega, h3⟩

theorem mark_cases (es : List Ent) (run rest : List Int) : markAt es run rest = -1 ∨ ∃ j : Nat, j < rest.length ∧ markAt es run rest = (j : Int) := by
  rcases markFrom_cases es run rest rest 0 with h | ⟨j, _, h2, h3⟩
  · exact .inl h
  · exact .inr ⟨j, by omega, h3⟩

/-- Whether the first k runes are an entry's. -/
def hitN (es : List Ent) (l : List Int) (k : Nat) : Bool := decide (k ≤ l.length) && decide (0 ≤ atE es (l.take k))

/-- How many runes at the front are a run. -/
def runN (es : List Ent) (l : List Int) : Nat := if hitN es l 4 = true then 4 else if hitN es l 3 = true then 3 else if hitN es l 2 = true then 2 else 1

/-- The same, of those below k. -/
def runTo (es : List Ent) (l : List Int) : Nat → Nat
  | 0 => 1
  | k + 1 => if 2 ≤ k ∧ hitN es l k = true then k else runTo es l k

theorem hitN_len {es : List Ent} {l : List Int} {k : Nat} (h : hitN es l k = true) : k ≤ l.length := by
  unfold hitN at h
  simp at h
  exact h.1

theorem hitN_far {es : List Ent} {l : List Int} {k : Nat} (h : l.length < k) : hitN es l k = false := by
  unfold hitN
  rw [decide_eq_false (by omega), Bool.false_and]

theorem hitN_near {es : List Ent} {l : List Int} {k : Nat} (h : k ≤ l.length) : hitN es l k = decide (0 ≤ atE es (l.take k)) := by
  unfold hitN
  rw [decide_eq_true h, Bool.true_and]

theorem runTo_two (es : List Ent) (l : List Int) : runTo es l 2 = 1 := by simp [runTo]

theorem runTo_succ {es : List Ent} {l : List Int} {k : Nat} (hk : 2 ≤ k) : runTo es l (k + 1) = if hitN es l k = true then k else runTo es l k := by
  rw [runTo]
  simp [hk]

theorem runTo_five (es : List Ent) (l : List Int) : runTo es l 5 = runN es l := by
  rw [runTo_succ (by omega), runTo_succ (by omega), runTo_succ (by omega), runTo_two]
  rfl

theorem runTo_far {es : List Ent} {l : List Int} {k : Nat} (h2 : 2 ≤ k) (h5 : k ≤ 5) (h : l.length < k) : runTo es l k = runN es l := by
  rw [← runTo_five]
  have step : ∀ d, k + d ≤ 5 → runTo es l (k + d) = runTo es l k := by
    intro d
    induction d with
    | zero => intro _; rfl
    | succ d ih =>
      intro hd
      rw [show k + (d + 1) = (k + d) + 1 by omega, runTo_succ (by omega), hitN_far (by omega)]
      exact ih (by omega)
  have := step (5 - k) (by omega)
  rw [show k + (5 - k) = 5 by omega] at this
  exact this.symm

theorem runTo_bd {es : List Ent} {l : List Int} {k : Nat} (h : 1 ≤ l.length) : 1 ≤ runTo es l k ∧ runTo es l k ≤ l.length ∧ runTo es l k ≤ max 1 (k - 1) := by
  induction k with
  | zero => exact ⟨Nat.le_refl _, h, by simp [runTo]⟩
  | succ k ih =>
    rw [runTo]
    split
    · rename_i c
      have := hitN_len c.2
      omega
    · omega

theorem runN_bd {es : List Ent} {l : List Int} (h : 1 ≤ l.length) : 1 ≤ runN es l ∧ runN es l ≤ l.length ∧ runN es l ≤ 4 := by
  have := runTo_bd (es := es) (k := 5) h
  rw [runTo_five] at this
  omega

theorem runN_hit {es : List Ent} {l : List Int} {k : Nat} (h2 : 2 ≤ k) (h4 : k ≤ 4) (h : hitN es l k = true) (hn : ∀ j, k < j → j ≤ 4 → hitN es l j = false) : runN es l = k := by
  unfold runN
  obtain rfl | rfl | rfl : k = 2 ∨ k = 3 ∨ k = 4 := by omega
  · rw [hn 4 (by omega) (by omega), hn 3 (by omega) (by omega), h]; simp
  · rw [hn 4 (by omega) (by omega), h]; simp
  · rw [h]; simp

theorem runN_one {es : List Ent} {l : List Int} (hn : ∀ j, 1 < j → j ≤ 4 → hitN es l j = false) : runN es l = 1 := by
  unfold runN
  rw [hn 4 (by omega) (by omega), hn 3 (by omega) (by omega), hn 2 (by omega) (by omega)]; simp

/-- A run and what is left, once all marks that may have gone into it. -/
def grabF (es : List Ent) : Nat → List Int → List Int → List Int × List Int
  | 0, run, rest => (run, rest)
  | f + 1, run, rest => if markAt es run rest < 0 then (run, rest) else grabF es f (run ++ [at0 rest (markAt es run rest).toNat]) (rest.eraseIdx (markAt es run rest).toNat)

def grab (es : List Ent) (run rest : List Int) : List Int × List Int := grabF es rest.length run rest

theorem grab_stop {es : List Ent} {run rest : List Int} (h : markAt es run rest = -1) : grab es run rest = (run, rest) := by
  unfold grab
  cases rest.length with
  | zero => rfl
  | succ n => rw [grabF, if_pos (by omega)]

theorem grab_go {es : List Ent} {run rest : List Int} {k : Nat} (hk : k < rest.length) (h : markAt es run rest = (k : Int)) : grab es run rest = grab es (run ++ [at0 rest k]) (rest.eraseIdx k) := by
  unfold grab
  rw [List.length_eraseIdx_of_lt hk]
  obtain ⟨n, hn⟩ : ∃ n, rest.length = n + 1 := ⟨rest.length - 1, by omega⟩
  rw [hn, grabF, if_neg (by omega), h, Int.toNat_natCast]
  rfl

/-- What all runes, the first one and the number of them keep. -/
theorem grabF_kept (es : List Ent) (f : Nat) (run rest : List Int) (h1 : 1 ≤ run.length) :
    (grabF es f run rest).1.length + (grabF es f run rest).2.length = run.length + rest.length ∧ 1 ≤ (grabF es f run rest).1.length ∧ at0 (grabF es f run rest).1 0 = at0 run 0 ∧
    (∀ x ∈ (grabF es f run rest).1, x ∈ run ∨ x ∈ rest) ∧ (∀ x ∈ (grabF es f run rest).2, x ∈ rest) := by
  induction f generalizing run rest with
  | zero => exact ⟨rfl, h1, rfl, fun x hx => .inl hx, fun x hx => hx⟩
  | succ f ih =>
    unfold grabF
    split
    · exact ⟨rfl, h1, rfl, fun x hx => .inl hx, fun x hx => hx⟩
    · rename_i c
      rcases mark_cases es run rest with h | ⟨j, hj, h⟩
      · omega
      · rw [h, Int.toNat_natCast]
        obtain ⟨a, b, d, e, g⟩ := ih (run ++ [at0 rest j]) (rest.eraseIdx j) (by simp)
        refine ⟨?_, b, ?_, ?_, ?_⟩
        · rw [a, List.length_append, List.length_eraseIdx_of_lt hj]
          simp
          omega
        · rw [d]
          unfold at0
          rw [List.getElem?_append_left (by omega)]
        · intro x hx
          rcases e x hx with h1 | h1
          · rcases List.mem_append.1 h1 with h2 | h2
            · exact .inl h2
            · right
              simp only [List.mem_singleton] at h2
              subst h2
              unfold at0
              rw [List.getElem?_eq_getElem hj]
              exact List.getElem_mem hj
          · exact .inr (List.mem_of_mem_eraseIdx h1)
        · intro x hx
          exact List.mem_of_mem_eraseIdx (g x hx)

theorem grab_kept (es : List Ent) (run rest : List Int) (h1 : 1 ≤ run.length) :
    (grab es run rest).1.length + (grab es run rest).2.length = run.length + rest.length ∧ 1 ≤ (grab es run rest).1.length ∧ at0 (grab es run rest).1 0 = at0 run 0 ∧
    (∀ x ∈ (grab es run rest).1, x ∈ run ∨ x ∈ rest) ∧ (∀ x ∈ (grab es run rest).2, x ∈ rest) := grabF_kept es rest.length run rest h1

/-- The elems of a run. -/
def elsOf (es : List Ent) (run : List Int) : List El := match entOf es run with
  | some e => [e]
  | none => base (at0 run 0)

theorem elsOf_len (es : List Ent) (run : List Int) : (elsOf es run).length ≤ 2 := by
  unfold elsOf
  split
  · simp
  · exact base_len _

/-- The run at the front, with the marks that go into it, and what is left. -/
def take4 (es : List Ent) (l : List Int) : List Int × List Int := grab es (l.take (runN es l)) (l.drop (runN es l))

theorem take4_kept {es : List Ent} {l : List Int} (h : 1 ≤ l.length) :
    (take4 es l).1.length + (take4 es l).2.length = l.length ∧ 1 ≤ (take4 es l).1.length ∧ at0 (take4 es l).1 0 = at0 l 0 ∧ (∀ x ∈ (take4 es l).1, x ∈ l) ∧ (∀ x ∈ (take4 es l).2, x ∈ l) := by
  obtain ⟨b1, b2, b3⟩ := runN_bd (es := es) h
  obtain ⟨a, b, c, d, e⟩ := grab_kept es (l.take (runN es l)) (l.drop (runN es l)) (by rw [List.length_take]; omega)
  refine ⟨?_, b, ?_, ?_, ?_⟩
  · show (grab es _ _).1.length + (grab es _ _).2.length = _
    rw [a, List.length_take, List.length_drop]
    omega
  · show at0 (grab es _ _).1 0 = _
    rw [c]
    unfold at0
    rw [List.getElem?_take_of_lt (by omega)]
  · intro x hx
    rcases d x hx with h | h
    · exact List.mem_of_mem_take h
    · exact List.mem_of_mem_drop h
  · intro x hx
    exact List.mem_of_mem_drop (e x hx)

def elemsF (es : List Ent) : Nat → List Int → List El
  | 0, _ => []
  | f + 1, l => if l.length = 0 then [] else elsOf es (take4 es l).1 ++ elemsF es f (take4 es l).2

/-- The elems of runes. -/
def elems4 (es : List Ent) (l : List Int) : List El := elemsF es l.length l

theorem elemsF_more (es : List Ent) (f g : Nat) (l : List Int) (h1 : l.length ≤ f) (h2 : l.length ≤ g) : elemsF es f l = elemsF es g l := by
  induction f generalizing g l with
  | zero =>
    have : l.length = 0 := by omega
    cases g with
    | zero => rfl
    | succ g => rw [elemsF, elemsF, if_pos this]
  | succ f ih =>
    by_cases c : l.length = 0
    · cases g with
      | zero => rw [elemsF, elemsF, if_pos c]
      | succ g => rw [elemsF, elemsF, if_pos c, if_pos c]
    · cases g with
      | zero => omega
      | succ g =>
        have := take4_kept (es := es) (l := l) (by omega)
        rw [elemsF, elemsF, if_neg c, if_neg c, ih g (take4 es l).2 (by omega) (by omega)]

theorem elems4_nil (es : List Ent) : elems4 es [] = [] := rfl

theorem elems4_step {es : List Ent} {l : List Int} (h : 1 ≤ l.length) : elems4 es l = elsOf es (take4 es l).1 ++ elems4 es (take4 es l).2 := by
  unfold elems4
  obtain ⟨n, hn⟩ : ∃ n, l.length = n + 1 := ⟨l.length - 1, by omega⟩
  have := take4_kept (es := es) h
  rw [hn, elemsF, if_neg (by omega), elemsF_more es n (take4 es l).2.length (take4 es l).2 (by omega) (Nat.le_refl _)]

theorem elemsF_len (es : List Ent) (f : Nat) (l : List Int) : (elemsF es f l).length ≤ 2 * l.length := by
  induction f generalizing l with
  | zero => exact Nat.zero_le _
  | succ f ih =>
    rw [elemsF]
    split
    · exact Nat.zero_le _
    · have := take4_kept (es := es) (l := l) (by omega)
      have h2 := ih (take4 es l).2
      have h3 := elsOf_len es (take4 es l).1
      rw [List.length_append]
      omega

theorem elems4_len (es : List Ent) (l : List Int) : (elems4 es l).length ≤ 2 * l.length := elemsF_len es l.length l

/-- What holds of every elem of the entries and of every rune's holds of a text's. -/
theorem elemsF_all {P : El → Prop} {es : List Ent} (hes : ∀ e ∈ es, P e.el) (f : Nat) (l : List Int) (hl : ∀ x ∈ l, ∀ e ∈ base x, P e) : ∀ e ∈ elemsF es f l, P e := by
  induction f generalizing l with
  | zero => intro e he; cases he
  | succ f ih =>
    intro e he
    rw [elemsF] at he
    split at he
    · cases he
    · rename_i c
      have hk := take4_kept (es := es) (l := l) (by omega)
      rcases List.mem_append.1 he with h | h
      · unfold elsOf at h
        split at h
        · rename_i x hx
          simp only [List.mem_singleton] at h
          subst h
          unfold entOf at hx
          split at hx
          · obtain ⟨y, hy, rfl⟩ := Option.map_eq_some_iff.1 hx
            exact hes y (List.mem_of_getElem? hy)
          · cases hx
        · refine hl (at0 (take4 es l).1 0) ?_ e h
          rw [hk.2.2.1]
          unfold at0
          rw [List.getElem?_eq_getElem (show 0 < l.length by omega)]
          exact List.getElem_mem _
      · exact ih _ (fun x hx => hl x (hk.2.2.2.2 x hx)) e h

theorem elems4_all {P : El → Prop} {es : List Ent} (hes : ∀ e ∈ es, P e.el) (l : List Int) (hl : ∀ x ∈ l, ∀ e ∈ base x, P e) : ∀ e ∈ elems4 es l, P e := elemsF_all hes l.length l hl
end Go.Proofs.YtddelohmppdndaaGreatDoor

namespace Go.Proofs.YtddelohmppdndaaGreatDoor
open Go.RowKit

/-- None of the first k has class 0. -/
def MarksTo (rest : List Int) (k : Nat) : Prop := ∀ j x, j < k → rest[j]? = some x → cls x ≠ 0

theorem MarksTo.succ {rest : List Int} {k : Nat} {m : Int} (h : MarksTo rest k) (hm : rest[k]? = some m) (hc : cls m ≠ 0) : MarksTo rest (k + 1) := by
  intro j x hj hx
  by_cases e : j = k
  · subst e; rw [hm] at hx; cases hx; exact hc
  · exact h j x (by omega) hx

theorem blk_take {rest : List Int} {k : Nat} {m : Int} (h : MarksTo rest k) : blk (rest.take k) m = blkB rest k (cls m) := by
  unfold blk blkB
  rw [Bool.eq_iff_iff, List.any_eq_true, List.any_eq_true]
  constructor
  · rintro ⟨b, hb, hp⟩
    refine ⟨b, hb, ?_⟩
    obtain ⟨j, hj⟩ := List.mem_iff_getElem?.1 hb
    have hjk : j < k := by
      have := (List.getElem?_eq_some_iff.1 hj).1
      rw [List.length_take] at this
      omega
    rw [List.getElem?_take_of_lt hjk] at hj
    have := h j b hjk hj
    simpa [this] using hp
  · rintro ⟨b, hb, hp⟩
    exact ⟨b, hb, by simp only [Bool.or_eq_true]; exact .inr hp⟩

def ansV (n : Int) : Value := .tuple #[.int .i64 (if n < 0 then 0 else n), .bool (decide (0 ≤ n))]

theorem ret_none {n : Int} (h : n = -1) : Ending.returned (.tuple #[.int .i64 0, .bool false]) = .returned (ansV n) := by subst h; rfl
theorem ret_some {n : Int} {k : Nat} (h : n = (k : Int)) : Ending.returned (.tuple #[.int .i64 (k : Int), .bool true]) = .returned (ansV n) := by
  subst h
  unfold ansV
  rw [if_neg (by omega), decide_eq_true (by omega)]

def MiRel (w : World) (es : List Ent) (run rest : List Int) (ans : Int) (i : Value) (wr : World) : Prop :=
  ∃ k : Nat, k ≤ rest.length ∧ i = .int .i64 k ∧ MarksTo rest k ∧ markFrom es run rest (rest.drop k) k = ans ∧ Below w.heap.size w wr

set_option maxRecDepth 100000 in
set_option maxHeartbeats 8000000 in
theorem markInto_row (w : World) (B g1 f1 c1 g2 f2 c2 : Nat) (ve : Value) (es : List Ent) (run rest : List Int) (hE : Ents w B ve es) (hn : es.length ≤ 1048576) (hr : ∀ e ∈ es, e.runes.length ≤ 1048576) (ht : Tabs3 w)
    (hg1 : g1 < w.heap.size) (hg2 : g2 < w.heap.size) (h1 : 1 ≤ run.length) (hl1 : run.length ≤ 3000) (hl2 : rest.length ≤ 3000) (hcap : rest.length ≤ c2)
    (hc1 : ∀ j x, run[j]? = some x → w.cell? ⟨g1, f1 + j, none⟩ = some (.int .i64 x)) (hc2 : ∀ j x, rest[j]? = some x → w.cell? ⟨g2, f2 + j, none⟩ = some (.int .i64 x)) :
    Calls Tryz.prog 95 #[ve, .slice (some ⟨g1, f1, none⟩) run.length c1, .slice (some ⟨g2, f2, none⟩) rest.length c2] w fun e w' => e = .returned (ansV (markAt es run rest)) ∧ Below w.heap.size w w' := by
  obtain ⟨ans, HANS⟩ : ∃ ans, Hid (markAt es run rest = ans) := ⟨_, rfl⟩
  rw [HANS.out]
  obtain ⟨va, vn, vc, rfl⟩ : ∃ a n c, ve = .slice a n c := by
    rcases hE.form with ⟨rfl, _⟩ | ⟨_, _, rfl, _, _, _, _⟩
    · exact ⟨_, _, _, rfl⟩
    · exact ⟨_, _, _, rfl⟩
  have HC1 : Hid _ := hc1
  have HC2 : Hid _ := hc2
  have HE : Hid (Ents _ _ _ _) := hE
  have HT : Hid (Tabs3 _) := ht
  clear hc1 hc2 hE ht
  go_enter Tryz.func95, Tryz.ntmps95
  go_wp2
  go_loopw [14] (fun i wr => MiRel w es run rest ans i wr) (fun i _ => rest.length - (intOf i).toNat)
  case atStart => exact ⟨0, Nat.zero_le _, rfl, fun j x hj => by omega, by rw [List.drop_zero]; exact HANS.out, Below.refl _ _⟩
  case round =>
    clear HANS
    obtain ⟨k, hk, rfl, hM, hA, hb⟩ := hrel
    have HA : Hid _ := hA
    have HM : Hid (MarksTo _ _) := hM
    clear hA hM
    by_cases hlt : k < rest.length
    · obtain ⟨m, hm⟩ : ∃ m, rest[k]? = some m := ⟨_, List.getElem?_eq_getElem hlt⟩
      have c0 : wr.cell? ⟨g2, f2 + k, none⟩ = some (.int .i64 m) := (hb.cell hg2).trans (HC2.out k m hm)
      have hk8 : (k : Int) < (rest.length : Int) := by omega
      have hkc : k < c2 := by omega
      have HA2 : Hid ((if cls m = 0 then -1 else if blkB rest k (cls m) = false ∧ 0 ≤ atE es (run ++ [m]) then (k : Int) else markFrom es run rest (rest.drop (k + 1)) (k + 1)) = ans) := by
        show _ = _
        rw [← HA.out, int_drop hm]
        rfl
      have HMM : Hid (rest[k]? = some m) := hm
      clear HA hm
      have CL := implClass_any m wr ((HT.out.below hb).1)
      by_cases hc : cls m = 0
      · have HF : Hid (-1 = ans) := by show _ = _; rw [← HA2.out, if_pos hc]
        rw [hc] at CL
        clear HA2
        go_wp2_with fail
        refine CL.mono ?_
        rintro e w3 ⟨rfl, b3⟩
        clear CL c0
        go_wp2
        go_ret2
        exact ⟨ret_none HF.out.symm, hb.trans (b3.mono hb.size)⟩
      · have HA3 : Hid ((if blkB rest k (cls m) = false ∧ 0 ≤ atE es (run ++ [m]) then (k : Int) else markFrom es run rest (rest.drop (k + 1)) (k + 1)) = ans) := by show _ = _; rw [← HA2.out, if_neg hc]
        have hc' : (cls m == 0) = false := by simpa using hc
        have HM2 : Hid (MarksTo rest (k + 1)) := HM.out.succ HMM.out hc
        have HBT : Hid (blk (rest.take k) m = blkB rest k (cls m)) := blk_take HM.out
        clear HA2 HM
        go_wp2_with fail
        refine CL.mono ?_
        rintro e w3 ⟨rfl, b3⟩
        clear CL c0
        have b3' := hb.trans (b3.mono hb.size)
        have hgw3 : g2 < w3.heap.size := Nat.lt_of_lt_of_le hg2 b3'.size
        have BL := blocked_any w3 g2 f2 c2 (rest.take k) m (by rw [List.length_take]; omega) hgw3 (fun j x hx => by
          have hjk : j < k := by
            have := (List.getElem?_eq_some_iff.1 hx).1
            rw [List.length_take] at this
            omega
          rw [List.getElem?_take_of_lt hjk] at hx
          exact (b3'.cell hg2).trans (HC2.out j x hx)) ((HT.out.below b3').1)
        rw [HBT.out, show (rest.take k).length = k by rw [List.length_take]; omega] at BL
        have hkc2 : k ≤ c2 := by omega
        clear HBT b3 hb
        generalize hbb : blkB rest k (cls m) = bb at *
        cases bb
        · go_wp2_with fail
          refine BL.mono ?_
          rintro e w4 ⟨rfl, b4⟩
          have b4' := b3'.trans (b4.mono b3'.size)
          clear BL b4 b3' hgw3
          have hsz4 := b4'.size
          have hx0 : ∀ o : Obj, Below w.heap.size w (w4.alloc o) := fun o => b4'.alloc b4'.size o
          have CC := fun (tb : Nat) (u : World) (htb : tb = w4.heap.size) (hu : u = w4.alloc (.cells #[.slice (some ⟨g1, f1, none⟩) run.length c1, .slice (some ⟨g2, f2 + k, none⟩) ([m] : List Int).length (c2 - k)] 39)) => concat_two u tb g1 f1 c1 g2 (f2 + k) (c2 - k) run [m] (by subst htb; rw [hu]; exact heap_alloc_new _ _) (by rw [hu]; simp; omega) (by rw [hu]; simp; omega) h1 (by omega) (by simp) (fun j x hx => by rw [hu]; exact ((hx0 _).cell hg1).trans (HC1.out j x hx)) (fun j x hx => by
            have hj0 : j = 0 := by
              have := (List.getElem?_eq_some_iff.1 hx).1
              simp at this
              omega
            subst hj0
            simp at hx
            subst hx
            rw [hu, Nat.add_zero]
            exact ((hx0 _).cell hg2).trans (HC2.out k m HMM.out))
          have CC1 := CC w4.heap.size _ rfl rfl
          clear CC
          go_wp2_with fail
          refine CC1.mono ?_
          rintro e w5 ⟨v5, rfl, i5, b5⟩
          have b5' : Below w.heap.size w w5 := (hx0 _).trans (b5.mono (hx0 _).size)
          clear CC1 b5 b4' hx0
          have EN := entryAt_any (HE.out.below b5') i5.rowAt hn hr
          obtain ⟨o, ho⟩ : ∃ o, entOf es (run ++ [m]) = o := ⟨_, rfl⟩
          have HO : Hid (o.isSome = decide (0 ≤ atE es (run ++ [m]))) := by show _ = _; rw [← ho]; exact entOf_some
          rw [ho] at EN
          clear ho i5
          unfold elRes elV at EN
          generalize elOf o = eo at *
          generalize o.isSome = ob at *
          go_wp2_with fail
          refine EN.mono ?_
          rintro e w6 ⟨rfl, b6⟩
          have b6' := b5'.trans (b6.mono b5'.size)
          clear EN b6 b5'
          cases ob
          · have hneg : ¬ 0 ≤ atE es (run ++ [m]) := of_decide_eq_false HO.out.symm
            have HF : Hid (markFrom es run rest (rest.drop (k + 1)) (k + 1) = ans) := by show _ = _; rw [← HA3.out, if_neg (fun c => hneg c.2)]
            clear HA3 HO hneg
            go_wp2
            exact ⟨⟨k + 1, hlt, by go_num, HM2.out, HF.out, b6'.alloc b6'.size _⟩, by simp [intOf]; omega⟩
          · have hpos : 0 ≤ atE es (run ++ [m]) := of_decide_eq_true HO.out.symm
            have HF : Hid ((k : Int) = ans) := by show _ = _; rw [← HA3.out, if_pos (by simp [hpos])]
            clear HA3 HO hpos
            go_wp2
            go_ret2
            exact ⟨ret_some HF.out.symm, b6'.alloc b6'.size _⟩
        · have HF : Hid (markFrom es run rest (rest.drop (k + 1)) (k + 1) = ans) := by show _ = _; rw [← HA3.out, if_neg (fun c => by cases c.1)]
          clear HA3
          go_wp2_with fail
          refine BL.mono ?_
          rintro e w4 ⟨rfl, b4⟩
          clear BL
          go_wp2
          exact ⟨⟨k + 1, hlt, by go_num, HM2.out, HF.out, b3'.trans (b4.mono b3'.size)⟩, by simp [intOf]; omega⟩
    · have hk3 : k = rest.length := by omega
      subst hk3
      have HF : Hid (-1 = ans) := by show _ = _; rw [← HA.out, List.drop_length]; rfl
      clear HA
      go_wp2
      go_ret2
      exact ⟨ret_none HF.out.symm, hb⟩

set_option maxRecDepth 100000 in
set_option maxHeartbeats 1000000 in
theorem markInto_nil (w : World) (ve vr : Value) (a : Option Addr) (c : Nat) (es : List Ent) (run : List Int) : Calls Tryz.prog 95 #[ve, vr, .slice a 0 c] w fun e w' => e = .returned (ansV (markAt es run [])) ∧ Below w.heap.size w w' := by
  have HF : Hid (markAt es run [] = -1) := rfl
  go_enter Tryz.func95, Tryz.ntmps95
  go_wp2
  go_loopw [14] (fun i wr => i = .int .i64 0 ∧ wr = w) (fun _ _ => 0)
  case atStart => exact ⟨rfl, rfl⟩
  case round =>
    obtain ⟨rfl, rfl⟩ := hrel
    go_wp2
    go_ret2
    exact ⟨ret_none HF.out, Below.refl _ _⟩
end Go.Proofs.YtddelohmppdndaaGreatDoor

namespace Go.Proofs.YtddelohmppdndaaGreatDoor
open Go.RowKit

/-- A list of ints in the midst of a block of the call's own, which may be written into. -/
def MidI (w : World) (B : Nat) (v : Value) (l : List Int) : Prop :=
  (∃ a c, v = .slice a 0 c ∧ l = []) ∨ ∃ g f c cs, v = .slice (some ⟨g, f, none⟩) l.length c ∧ l.length ≤ c ∧ c ≤ maxLen ∧ B ≤ g ∧ w.heap[g]? = some (.cells cs 3) ∧ ∀ j x, l[j]? = some x → w.cell? ⟨g, f + j, none⟩ = some (.int .i64 x)

theorem Ints.midI {w : World} {B : Nat} {v : Value} {l : List Int} (h : Ints w B v l) : MidI w B v l := by
  rcases h.2 with ⟨a, b⟩ | ⟨g, cap, cur, a, b, c, d, e, _⟩
  · exact .inl ⟨_, _, a, by simpa using b⟩
  · subst a
    refine .inr ⟨g, 0, cap, cur, rfl, d, e, b, c, fun j x hx => ?_⟩
    have hj := (List.getElem?_eq_some_iff.1 hx).1
    rw [Nat.zero_add, h.cell j hj, hx]
    rfl

def RfRel (es : List Ent) (l : List Int) (w : World) (i : Value) (wr : World) : Prop :=
  ∃ n : Nat, 1 ≤ n ∧ n ≤ 4 ∧ n ≤ l.length ∧ i = .int .i64 n ∧ (∀ j, n < j → j ≤ 4 → hitN es l j = false) ∧ Below w.heap.size w wr

theorem rowAt_take {w : World} {g f c : Nat} {l : List Int} (n : Nat) (hn : n ≤ l.length) (hg : g < w.heap.size) (hc : ∀ j x, l[j]? = some x → w.cell? ⟨g, f + j, none⟩ = some (.int .i64 x)) : RowAt w (.slice (some ⟨g, f, none⟩) n c) (l.take n) := by
  refine .inr ⟨g, f, c, ?_, hg, fun j x hx => ?_⟩
  · rw [List.length_take, Nat.min_eq_left hn]
  · have hjn : j < n := by
      have := (List.getElem?_eq_some_iff.1 hx).1
      rw [List.length_take] at this
      omega
    rw [List.getElem?_take_of_lt hjn] at hx
    exact hc j x hx

set_option maxRecDepth 100000 in
set_option maxHeartbeats 4000000 in
theorem runAt_any (w : World) (B g f c : Nat) (ve : Value) (es : List Ent) (l : List Int) (hE : Ents w B ve es) (hn : es.length ≤ 1048576) (hr : ∀ e ∈ es, e.runes.length ≤ 1048576)
    (hg : g < w.heap.size) (h1 : 1 ≤ l.length) (hl : l.length ≤ 3000) (hcap : l.length ≤ c) (hc : ∀ j x, l[j]? = some x → w.cell? ⟨g, f + j, none⟩ = some (.int .i64 x)) :
    Calls Tryz.prog 94 #[ve, .slice (some ⟨g, f, none⟩) l.length c] w fun e w' => e = .returned (.int .i64 (runN es l)) ∧ Below w.heap.size w w' := by
  obtain ⟨va, vn, vc, rfl⟩ : ∃ a n c, ve = .slice a n c := by
    rcases hE.form with ⟨rfl, _⟩ | ⟨_, _, rfl, _, _, _, _⟩
    · exact ⟨_, _, _, rfl⟩
    · exact ⟨_, _, _, rfl⟩
  have HC : Hid _ := hc
  have HE : Hid (Ents _ _ _ _) := hE
  clear hc hE
  obtain ⟨s0, hs0, hs1, hs2, HS⟩ : ∃ s0 : Nat, min (4 : Int) (l.length : Int) = (s0 : Int) ∧ 1 ≤ s0 ∧ s0 ≤ 4 ∧ Hid (s0 ≤ l.length ∧ (s0 = 4 ∨ s0 = l.length)) := ⟨min 4 l.length, by omega, by omega, by omega, by show _ ∧ _; omega⟩
  go_enter Tryz.func94, Tryz.ntmps94
  go_wp2
  go_loopw [5] (fun i wr => RfRel es l w i wr) (fun i _ => (intOf i).toNat)
  case atStart =>
    refine ⟨s0, hs1, hs2, HS.out.1, ?_, fun j h1 h2 => hitN_far ?_, Below.refl _ _⟩
    · rw [← hs0]
    · have := HS.out
      omega
  case round =>
    clear hs0 HS hs1 hs2
    obtain ⟨n, hn1, hn4, hnl, rfl, HN0, hb⟩ := hrel
    have HN : Hid (∀ j, n < j → j ≤ 4 → hitN es l j = false) := HN0
    clear HN0
    by_cases hlt : 1 < n
    · have hk8 : (1 : Int) < (n : Int) := by omega
      have hnc : n ≤ c := by omega
      have hgr : g < wr.heap.size := Nat.lt_of_lt_of_le hg hb.size
      have EN := entryAt_any (HE.out.below hb) (rowAt_take (c := c) n hnl hgr (fun j x hx => (hb.cell hg).trans (HC.out j x hx))) hn hr
      obtain ⟨o, ho⟩ : ∃ o, entOf es (l.take n) = o := ⟨_, rfl⟩
      have HO : Hid (o.isSome = hitN es l n) := by show _ = _; rw [hitN_near hnl, ← ho]; exact entOf_some
      rw [ho] at EN
      clear ho
      unfold elRes elV at EN
      generalize elOf o = eo at *
      generalize o.isSome = ob at *
      go_wp2_with fail
      refine EN.mono ?_
      rintro e w6 ⟨rfl, b6⟩
      have b6' := hb.trans (b6.mono hb.size)
      clear EN b6 hb
      cases ob
      · have HN2 : Hid (∀ j, n - 1 < j → j ≤ 4 → hitN es l j = false) := fun j h3 h4 => by
          by_cases e : j = n
          · subst e; exact HO.out.symm
          · exact HN.out j (by omega) h4
        clear HN HO
        go_wp2
        exact ⟨⟨n - 1, by omega, by omega, by omega, by go_num, HN2.out, b6'.alloc b6'.size _⟩, by simp [intOf]; omega⟩
      · have HF : Hid (runN es l = n) := runN_hit (by omega) hn4 HO.out.symm HN.out
        clear HN HO
        go_wp2
        go_ret
        rw [HF.out]
        exact ⟨rfl, b6'.alloc b6'.size _⟩
    · have hn0 : n = 1 := by omega
      subst hn0
      have HF : Hid (runN es l = 1) := runN_one HN.out
      clear HN
      go_wp2
      go_ret
      rw [HF.out]
      exact ⟨rfl, hb⟩
end Go.Proofs.YtddelohmppdndaaGreatDoor

namespace Go.Proofs.YtddelohmppdndaaGreatDoor
open Go.RowKit

/-- A list of ints in the block g, which may be written into. -/
def MidG (w : World) (g : Nat) (v : Value) (l : List Int) : Prop :=
  (∃ a c, v = .slice a 0 c ∧ l = []) ∨ ∃ f c cs, v = .slice (some ⟨g, f, none⟩) l.length c ∧ l.length ≤ c ∧ c ≤ maxLen ∧ w.heap[g]? = some (.cells cs 3) ∧ ∀ j x, l[j]? = some x → w.cell? ⟨g, f + j, none⟩ = some (.int .i64 x)

def sliceLen : Value → Nat
  | .slice _ n _ => n
  | _ => 0

theorem MidG.len {w : World} {g : Nat} {v : Value} {l : List Int} (h : MidG w g v l) : sliceLen v = l.length := by
  rcases h with ⟨a, c, rfl, rfl⟩ | ⟨f, c, cs, rfl, _⟩ <;> rfl

theorem MidG.below {w w' : World} {g : Nat} {v : Value} {l : List Int} (h : MidG w g v l) (hb : Below w.heap.size w w') : MidG w' g v l := by
  rcases h with h | ⟨f, c, cs, h1, h2, h3, h4, h5⟩
  · exact .inl h
  · have hg := (Array.getElem?_eq_some_iff.1 h4).1
    exact .inr ⟨f, c, cs, h1, h2, h3, (hb.block g hg).trans h4, fun j x hx => (hb.cell hg).trans (h5 j x hx)⟩

theorem MidG.kept {w w' : World} {g : Nat} {v : Value} {l : List Int} {row : Option Nat} (h : MidG w g v l) (hg : w.grownBy w' row) (hne : some g ≠ row) : MidG w' g v l := by
  rcases h with h | ⟨f, c, cs, h1, h2, h3, h4, h5⟩
  · exact .inl h
  · have hlt := (Array.getElem?_eq_some_iff.1 h4).1
    exact .inr ⟨f, c, cs, h1, h2, h3, (hg.block g hlt hne).trans h4, fun j x hx => (World.cell?_of_block (hg.block g hlt hne)).trans (h5 j x hx)⟩

theorem setCells_block {T : TypeId} (g : Nat) : ∀ (vs : List Value) (f : Nat) (w : World) (cs : Array Value), w.heap[g]? = some (.cells cs T) → ∃ cs', (w.setCells g f vs).heap[g]? = some (.cells cs' T)
  | [], _, _, cs, h => ⟨cs, h⟩
  | v :: vs, f, w, cs, h => by
    rw [World.setCells]
    exact setCells_block g vs (f + 1) _ _ (heap_setCell_same w g f cs T v h)

theorem setCells_size (g : Nat) : ∀ (vs : List Value) (f : Nat) (w : World), (w.setCells g f vs).heap.size = w.heap.size
  | [], _, _ => rfl
  | v :: vs, f, w => by
    rw [World.setCells, setCells_size g vs (f + 1)]
    simp [World.setCell]

theorem setCells_tape (g : Nat) : ∀ (vs : List Value) (f : Nat) (w : World), (w.setCells g f vs).tape = w.tape
  | [], _, _ => rfl
  | v :: vs, f, w => by
    rw [World.setCells, setCells_tape g vs (f + 1)]
    rfl

theorem setCells_grown (w : World) (q g f : Nat) (vs : List Value) : w.grownBy ((w.drewN q).setCells g f vs) (some g) :=
  ⟨World.os_setCells _ g f vs, setCells_tape g vs f _, World.output_setCells _ g f vs, by rw [setCells_size]; exact Nat.le_refl _, fun k hk hne => World.heap_setCells_other _ g f vs hk (fun e => hne (by rw [e]))⟩

/-- What is left behind a mark that was taken out. -/
theorem midG_del {w : World} {g f c q k : Nat} {cs : Array Value} {l : List Int} (hk : k < l.length) (h2 : l.length ≤ c) (h3 : c ≤ maxLen) (h4 : w.heap[g]? = some (.cells cs 3)) (h5 : ∀ j x, l[j]? = some x → w.cell? ⟨g, f + j, none⟩ = some (.int .i64 x)) :
    MidG ((w.drewN q).setCells g f ((l.eraseIdx k ++ [0]).map (Value.int .i64))) g (.slice (some ⟨g, f, none⟩) (l.eraseIdx k).length c) (l.eraseIdx k) := by
  have h4' : (w.drewN q).heap[g]? = some (.cells cs 3) := h4
  obtain ⟨cs', hcs⟩ := setCells_block g ((l.eraseIdx k ++ [0]).map (Value.int .i64)) f (w.drewN q) cs h4'
  have hlen := List.length_eraseIdx_of_lt hk
  refine .inr ⟨f, c, cs', rfl, by omega, h3, hcs, fun j x hx => ?_⟩
  have hth : (w.drewN q).there g f ((l.eraseIdx k ++ [0]).map (Value.int .i64)).length := fun j hj => by
    have hj2 : j < l.length := by simp [hlen] at hj; omega
    refine ⟨?_, by simp [World.frozen?, h4]⟩
    have := h5 j l[j] (List.getElem?_eq_getElem hj2)
    show (w.cell? ⟨g, f + j, none⟩).isSome = true
    rw [this]; rfl
  have hj : j < (l.eraseIdx k).length := (List.getElem?_eq_some_iff.1 hx).1
  refine World.rangeAt_setCells_same _ g f _ hth j (.int .i64 x) ?_
  rw [List.getElem?_map, List.getElem?_append_left hj, hx]
  rfl

theorem cells1_new (w : World) (n : Nat) (x : Value) (t : TypeId) (hn : n = w.heap.size) : ∀ j u, [x][j]? = some u → (w.alloc (.cells #[x] t)).cell? ((⟨n, 0, none⟩ : Addr).add j) = some u := by
  subst hn
  intro j u hj
  match j, hj with
  | 0, hj => simp at hj; subst hj; simp [Addr.add]

def TkRel (w w0 : World) (es : List Ent) (g N : Nat) (goal : List Int × List Int) (v7 v8 : Value) (wr : World) : Prop :=
  ∃ run rest, 1 ≤ run.length ∧ run.length + rest.length = N ∧ Ints wr w.heap.size v7 run ∧ MidG wr g v8 rest ∧ grab es run rest = goal ∧ Below w0.heap.size w0 wr ∧ w.grownBy wr (some g)

theorem midG_drop {w : World} {g f c n : Nat} {cs : Array Value} {l : List Int} (hn : n ≤ l.length) (h2 : l.length ≤ c) (h3 : c ≤ maxLen) (h4 : w.heap[g]? = some (.cells cs 3)) (h5 : ∀ j x, l[j]? = some x → w.cell? ⟨g, f + j, none⟩ = some (.int .i64 x)) :
    MidG w g (.slice (some ⟨g, f + n, none⟩) (l.length - n) (c - n)) (l.drop n) := by
  refine .inr ⟨f + n, c - n, cs, by rw [List.length_drop], by rw [List.length_drop]; omega, by omega, h4, fun j x hx => ?_⟩
  rw [List.getElem?_drop] at hx
  rw [Nat.add_assoc]
  exact h5 (n + j) x hx

theorem ints_form1 {w : World} {B : Nat} {v : Value} {l : List Int} (h : Ints w B v l) (h1 : 1 ≤ l.length) : ∃ g c, v = .slice (some ⟨g, 0, none⟩) l.length c ∧ B ≤ g ∧ g < w.heap.size ∧ ∀ j x, l[j]? = some x → w.cell? ⟨g, 0 + j, none⟩ = some (.int .i64 x) := by
  rcases h.form with ⟨rfl, rfl⟩ | ⟨g, cap, rfl, _, _⟩
  · simp at h1
  · refine ⟨g, cap, rfl, (World.ownsRow.lt h g rfl).1, (World.ownsRow.lt h g rfl).2, fun j x hx => ?_⟩
    have hj := (List.getElem?_eq_some_iff.1 hx).1
    rw [Nat.zero_add, h.cell j hj, hx]
    rfl

theorem markInto_any {w w0 : World} {B B' g : Nat} {ve v7 v8 : Value} {es : List Ent} {run rest : List Int} (hE : Ents w0 B ve es) (hn : es.length ≤ 1048576) (hr : ∀ e ∈ es, e.runes.length ≤ 1048576) (ht : Tabs3 w0) (hb : Below w0.heap.size w0 w)
    (i7 : Ints w B' v7 run) (i8 : MidG w g v8 rest) (h1 : 1 ≤ run.length) (hl : run.length + rest.length ≤ 3000) :
    Calls Tryz.prog 95 #[ve, v7, v8] w fun e w' => e = .returned (ansV (markAt es run rest)) ∧ Below w.heap.size w w' := by
  rcases i8 with ⟨a, c, rfl, rfl⟩ | ⟨f, c, cs, rfl, h2, h3, h4, h5⟩
  · exact markInto_nil w ve v7 a c es run
  · obtain ⟨g7, c7, rfl, _, hg7, hc7⟩ := ints_form1 i7 h1
    exact markInto_row w B g7 0 c7 g f c ve es run rest (hE.below hb) hn hr (ht.below hb) hg7 (Array.getElem?_eq_some_iff.1 h4).1 h1 (by omega) (by omega) h2 hc7 h5

set_option maxRecDepth 100000 in
set_option maxHeartbeats 8000000 in
theorem takeRun_row (w w0 : World) (B g f c : Nat) (cs : Array Value) (ve : Value) (es : List Ent) (l : List Int) (hb0 : Below w0.heap.size w0 w) (hE : Ents w0 B ve es) (hn : es.length ≤ 1048576) (hr : ∀ e ∈ es, e.runes.length ≤ 1048576) (ht : Tabs3 w0)
    (hg0 : w0.heap.size ≤ g) (h1 : 1 ≤ l.length) (hl : l.length ≤ 3000) (h2 : l.length ≤ c) (h3 : c ≤ maxLen) (h4 : w.heap[g]? = some (.cells cs 3)) (h5 : ∀ j x, l[j]? = some x → w.cell? ⟨g, f + j, none⟩ = some (.int .i64 x)) :
    Calls Tryz.prog 81 #[ve, .slice (some ⟨g, f, none⟩) l.length c] w fun e w' => ∃ vr vq, e = .returned (.tuple #[vr, vq]) ∧ Ints w' w.heap.size vr (take4 es l).1 ∧ MidG w' g vq (take4 es l).2 ∧ Below w0.heap.size w0 w' ∧ w.grownBy w' (some g) := by
  obtain ⟨i0, hi, hzz, hz1, hz2⟩ := info_parts info_int
  have hg : g < w.heap.size := (Array.getElem?_eq_some_iff.1 h4).1
  have RF := runAt_any w B g f c ve es l (hE.below hb0) hn hr hg h1 hl h2 h5
  obtain ⟨bd1, bd2, bd3⟩ := runN_bd (es := es) h1
  obtain ⟨goal, HG⟩ : ∃ goal, Hid (take4 es l = goal) := ⟨_, rfl⟩
  have HGR : Hid (grab es (l.take (runN es l)) (l.drop (runN es l)) = goal) := HG.out
  rw [HG.out]
  clear HG
  generalize runN es l = n at *
  obtain ⟨va, vn, vc, hve⟩ : ∃ a n c, ve = .slice a n c := by
    rcases hE.form with ⟨rfl, _⟩ | ⟨_, _, rfl, _, _, _, _⟩
    · exact ⟨_, _, _, rfl⟩
    · exact ⟨_, _, _, rfl⟩
  subst hve
  have HE : Hid (Ents _ _ _ _) := hE
  have HT : Hid (Tabs3 _) := ht
  have HB0 : Hid (Below _ _ _) := hb0
  have H5 : Hid (∀ j x, l[j]? = some x → w.cell? ⟨g, f + j, none⟩ = some (.int .i64 x)) := h5
  have H4 : Hid (w.heap[g]? = some (.cells cs 3)) := h4
  have hnc : n ≤ c := by omega
  clear hE ht hb0 h5 h4
  go_enter Tryz.func81, Tryz.ntmps81
  go_wp2_with fail
  refine RF.mono ?_
  rintro e w1 ⟨rfl, b1⟩
  clear RF
  have CLN := fun (u : World) (hu : Below w1.heap.size w1 u) => clone_at u g f c (l.take n) (by rw [List.length_take]; omega) (fun j x hx => by
    have hjn : j < n := by
      have := (List.getElem?_eq_some_iff.1 hx).1
      rw [List.length_take] at this
      omega
    rw [List.getElem?_take_of_lt hjn] at hx
    rw [hu.cell (Nat.lt_of_lt_of_le hg b1.size), b1.cell hg]
    exact H5.out j x hx)
  rw [show (l.take n).length = n by rw [List.length_take]; omega] at CLN
  go_upto_region 2 with fail
  go_cut [7, 8] from 14 to 20 (fun v7 v8 wx => Ints wx w1.heap.size v7 (l.take n) ∧ v8 = .slice (if c = n then some ⟨g, f, none⟩ else some ⟨g, f + n, none⟩) (l.length - n) (c - n) ∧ Below w1.heap.size w1 wx)
  case first =>
    by_cases hcn : c = n
    · subst hcn
      go_region_with (go_at_call 84; refine (CLN _ (by repeat (first | exact Below.refl _ _ | refine Below.drew ?_))).mono ?_; rintro e u6 ⟨v6, rfl, i6, b6⟩)
      all_goals
        have hK : Ints u6 w1.heap.size v6 (l.take c) ∧ Below w1.heap.size w1 u6 := ⟨i6, by first | exact b6 | exact ((Below.refl _ _).drew).trans b6⟩
        clear i6 b6 CLN
        go_wp2_with fail
        go_meet
        case rel => exact ⟨hK.1, by simp; omega, hK.2⟩
    · have hcn2 : (c == n) = false := by simpa using hcn
      go_region_with (go_at_call 84; refine (CLN _ (by repeat (first | exact Below.refl _ _ | refine Below.drew ?_))).mono ?_; rintro e u6 ⟨v6, rfl, i6, b6⟩)
      all_goals
        have hK : Ints u6 w1.heap.size v6 (l.take n) ∧ Below w1.heap.size w1 u6 := ⟨i6, by first | exact b6 | exact ((Below.refl _ _).drew).trans b6⟩
        clear i6 b6 CLN
        go_wp2_with fail
        go_meet
        case rel => exact ⟨hK.1, by rw [if_neg hcn], hK.2⟩
  case rest =>
    obtain ⟨i7, rfl, bc⟩ := hcut
    clear CLN
    have b1' : Below w0.heap.size w0 w1 := HB0.out.trans (b1.mono HB0.out.size)
    have bw : Below w.heap.size w wc := b1.trans (bc.mono b1.size)
    have b0c : Below w0.heap.size w0 wc := b1'.trans (bc.mono b1'.size)
    have H4c : wc.heap[g]? = some (.cells cs 3) := (bw.block g hg).trans H4.out
    have H5c : ∀ j x, l[j]? = some x → wc.cell? ⟨g, f + j, none⟩ = some (.int .i64 x) := fun j x hx => (bw.cell hg).trans (H5.out j x hx)
    have hM : MidG wc g (.slice (if c = n then some ⟨g, f, none⟩ else some ⟨g, f + n, none⟩) (l.length - n) (c - n)) (l.drop n) := by
      by_cases hcn : c = n
      · refine .inl ⟨if c = n then some ⟨g, f, none⟩ else some ⟨g, f + n, none⟩, c - n, ?_, List.drop_eq_nil_of_le (by omega)⟩
        rw [show l.length - n = 0 by omega]
      · rw [if_neg hcn]
        exact midG_drop bd2 h2 h3 H4c H5c
    have hst : TkRel w w0 es g l.length goal u7 (.slice (if c = n then some ⟨g, f, none⟩ else some ⟨g, f + n, none⟩) (l.length - n) (c - n)) wc :=
      ⟨l.take n, l.drop n, by rw [List.length_take]; omega, by rw [List.length_take, List.length_drop]; omega, ints_low2 i7 b1.size, hM, HGR.out, b0c, ⟨bw.os, bw.tape, bw.output, bw.size, fun k hk _ => bw.block k hk⟩⟩
    have HST : Hid (TkRel _ _ _ _ _ _ _ _ _) := hst
    clear hst hM H4c H5c b0c bw b1' i7 bc b1 HGR H4 H5 HB0
    generalize (Value.slice (if c = n then some ⟨g, f, none⟩ else some ⟨g, f + n, none⟩) (l.length - n) (c - n)) = v8 at *
    go_wp2_with fail
    go_loopw [7, 8] (fun v7 v8 wr => TkRel w w0 es g l.length goal v7 v8 wr) (fun _ v8 _ => sliceLen v8)
    case atStart => exact HST.out
    case round =>
      clear HST
      obtain ⟨run, rest, hr1, hrl, j7, j8, hgr, jb, jg⟩ := hrel
      have MI := markInto_any HE.out hn hr HT.out jb j7 j8 hr1 (by omega)
      have hl8 := j8.len
      have HGR : Hid (grab es run rest = goal) := hgr
      have HJB : Hid (Below _ _ _) := jb
      have HJG : Hid (World.grownBy _ _ _) := jg
      have H7 : Hid (Ints _ _ _ _) := j7
      have H8 : Hid (MidG _ _ _ _) := j8
      clear hgr jb jg j7 j8
      rcases mark_cases es run rest with hmk | ⟨k, hkl, hmk⟩
      · rw [hmk] at MI
        have HF : Hid (goal = (run, rest)) := by show _ = _; rw [← HGR.out]; exact grab_stop hmk
        clear HGR hmk
        unfold ansV at MI
        simp only [show (-1 : Int) < 0 from by decide, if_true, show decide ((0 : Int) ≤ -1) = false from rfl] at MI
        go_wp2_with fail
        refine MI.mono ?_
        rintro e w2 ⟨rfl, b2⟩
        clear MI
        go_wp2
        go_ret2
        rw [HF.out]
        exact ⟨_, _, rfl, H7.out.below b2, H8.out.below b2, HJB.out.trans (b2.mono HJB.out.size), HJG.out.trans ⟨b2.os, b2.tape, b2.output, b2.size, fun k hk _ => b2.block k hk⟩⟩
      · obtain ⟨x, hx⟩ : ∃ x, rest[k]? = some x := ⟨_, List.getElem?_eq_getElem hkl⟩
        have HF : Hid (grab es (run ++ [x]) (rest.eraseIdx k) = goal) := by
          show _ = _
          rw [← HGR.out, grab_go hkl hmk]
          unfold at0
          rw [hx]
          rfl
        rw [hmk] at MI
        clear HGR hmk
        unfold ansV at MI
        simp only [show ¬ ((k : Int) < 0) from by omega, if_false, show decide ((0 : Int) ≤ (k : Int)) = true from decide_eq_true (by omega)] at MI
        obtain ⟨f8, c8, cs8, h81, h82, h83, h84, h85⟩ : ∃ f c cs, u8 = .slice (some ⟨g, f, none⟩) rest.length c ∧ rest.length ≤ c ∧ c ≤ maxLen ∧ wr.heap[g]? = some (.cells cs 3) ∧ ∀ j x, rest[j]? = some x → wr.cell? ⟨g, f + j, none⟩ = some (.int .i64 x) := by
          rcases H8.out with ⟨a, c, _, h⟩ | h
          · subst h; simp at hkl
          · exact h
        subst h81
        have hgr : g < wr.heap.size := (Array.getElem?_eq_some_iff.1 h84).1
        have hk8 : (k : Int) < (rest.length : Int) := by omega
        go_wp2_with fail
        refine MI.mono ?_
        rintro e w2 ⟨rfl, b2⟩
        clear MI
        have hcx : w2.cell? ⟨g, f8 + k, none⟩ = some (.int .i64 x) := (b2.cell hgr).trans (h85 k x hx)
        have H82 : Hid (w2.heap[g]? = some (.cells cs8 3)) := (b2.block g hgr).trans h84
        have H85 : Hid (∀ j x, rest[j]? = some x → w2.cell? ⟨g, f8 + j, none⟩ = some (.int .i64 x)) := fun j x hx => (b2.cell hgr).trans (h85 j x hx)
        have i72 : Ints w2 w.heap.size u7 run := H7.out.below b2
        have b02 : Below w0.heap.size w0 w2 := HJB.out.trans (b2.mono HJB.out.size)
        have g02 : w.grownBy w2 (some g) := HJG.out.trans ⟨b2.os, b2.tape, b2.output, b2.size, fun k hk _ => b2.block k hk⟩
        have hsz2 : w.heap.size ≤ w2.heap.size := g02.size
        have HB02 : Hid (Below _ _ _) := b02
        have HG02 : Hid (World.grownBy _ _ _) := g02
        have hgw2 : g < w2.heap.size := Nat.lt_of_lt_of_le hgr b2.size
        clear h84 h85 H7 H8 HJB HJG b2 b02 g02 hgr hx
        unfold Ints at i72
        go_wp2_with (at_builtin; refine wpList_append_own _ rfl _ _ 39 rfl w.heap.size 3 i0 (.int .i64 0) 1 8 Tryz.underlying39 hi hzz hz1 hz2 rfl (by decide) _ _ _ rfl (i72.alloc _) ⟨w2.heap.size, 0, none⟩ 1 1 [.int .i64 x] rfl rfl (cells1_new _ _ _ _ (by simp)) (fun u hu => by simp at hu; subst hu; rfl) (by unfold maxLen; omega) (by omega) (by simp; omega) ?_)
        intro v7' w4 ho4 hg4 _
        have i74 : Ints w4 w.heap.size v7' (run ++ [x]) := Ints.snoc ho4
        have hne : some g ≠ u7.ownBlock := fun e => by have := (World.ownsRow.lt i72 g e.symm).1; omega
        have h44 : w4.heap[g]? = some (.cells cs8 3) := (hg4.block g (by simp; omega) hne).trans ((Below.heap_alloc _ _ _ hgw2).trans H82.out)
        have h45 : ∀ j x, rest[j]? = some x → w4.cell? ⟨g, f8 + j, none⟩ = some (.int .i64 x) := fun j y hy => by
          rw [World.cell?_of_block ((hg4.block g (by simp; omega) hne).trans (Below.heap_alloc _ _ _ hgw2))]
          exact H85.out j y hy
        have b04 : Below w0.heap.size w0 w4 := Below.grown (HB02.out.alloc HB02.out.size _) hg4 (HB02.out.alloc HB02.out.size _).size (fun j hj => Nat.le_trans (Nat.le_trans hg0 (Nat.le_of_lt hg)) (World.ownsRow.lt i72 j hj).1)
        have g04 : w.grownBy w4 (some g) := by
          refine ⟨hg4.os.trans HG02.out.os, hg4.tape.trans HG02.out.tape, hg4.output.trans HG02.out.output, Nat.le_trans hsz2 (Nat.le_trans (by simp) hg4.size), fun k hk hkn => ?_⟩
          have hk2 : k < w2.heap.size := Nat.lt_of_lt_of_le hk hsz2
          rw [hg4.block k (by simp; omega) (fun e => by have := (World.ownsRow.lt i72 k e.symm).1; omega), Below.heap_alloc _ _ _ hk2]
          exact HG02.out.block k hk hkn
        have DEL := delete_at w4 g f8 c8 k rest hkl h82 h83 h45 (fun j => by simp [World.frozen?, h44])
        have HMD := fun q => midG_del (q := q) hkl h82 h83 h44 h45
        have HMD' : Hid (∀ q, MidG ((w4.drewN q).setCells g f8 ((rest.eraseIdx k ++ [0]).map (Value.int .i64))) g (.slice (some ⟨g, f8, none⟩) (rest.eraseIdx k).length c8) (rest.eraseIdx k)) := HMD
        have hlen := List.length_eraseIdx_of_lt hkl
        have H74 : Hid (Ints _ _ _ _) := i74
        have HB04 : Hid (Below _ _ _) := b04
        have HG04 : Hid (World.grownBy _ _ _) := g04
        clear ho4 hg4 h44 h45 HMD i74 b04 g04 i72 HB02 HG02 H82 H85 hcx
        go_wp2_with fail
        refine DEL.mono ?_
        rintro e w5 ⟨rfl, q, rfl⟩
        clear DEL
        go_wp2
        refine ⟨⟨run ++ [x], rest.eraseIdx k, by simp, by rw [List.length_append]; simp; omega, ?_, (by have hq := HMD'.out q; rw [List.map_append, hlen] at hq; exact hq), HF.out, ?_, HG04.out.trans (setCells_grown w4 q g f8 _)⟩, ?_⟩
        · refine World.ownsRow.kept H74.out (setCells_grown w4 q g f8 _) ?_
          cases hv : v7'.ownBlock with
          | none => exact .inl rfl
          | some j => exact .inr fun c => by have := (World.ownsRow.lt H74.out j hv).1; have := Option.some.inj c; omega
        · exact Below.grown HB04.out (setCells_grown w4 q g f8 _) HB04.out.size (fun j hj => by cases hj; exact hg0)
        · show sliceLen _ < sliceLen _
          simp [sliceLen]
          omega
end Go.Proofs.YtddelohmppdndaaGreatDoor
