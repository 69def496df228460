/- Texts of mine laid together: ElApp, INorm2, ImplD, IApartT, IGood3, IElems, IElems2, IKey, Bys, IKeyOf. -/
import Derived.Test.YtanfebccenfffahGreatDoorFour
import Derived.Lib.AppendZeros
import Derived.Test.YtanfebccenfffahGreatDoorMP3
import Derived.Test.YtanfebccenfffahGreatDoorRead
import Derived.WalkKit
import Derived.Test.YtanfebccenfffahGreatDoorRn4
import Derived.Test.YtanfebccenfffahGreatDoorMP1
import Derived.Test.YtanfebccenfffahGreatDoorMP4
import Derived.Deep.RegionHeld3
import Derived.Test.YtanfebccenfffahGreatDoorNorm3
import Derived.Test.YtanfebccenfffahGreatDoorMP2
import Derived.Test.YtanfebccenfffahGreatDoorGrown1
import Derived.Test.YtanfebccenfffahGreatDoorPKey2
import Derived.Laws.BytesString
import Derived.Deep.Cut
import Derived.Deep.CutRange
namespace Go.Proofs.YtanfebccenfffahGreatDoor
open Go.RowKit

theorem run_append_none {P : Program} (w : World) (t ty e : TypeId) (i : TypeInfo) (ht : P.underlying t = some (.slice e)) (hi : P.info? e = some i) (b : Option Addr) (n c : Nat) (hle : n ≤ c) :
    (Builtin.append_ #[t, t] ty #[.slice b n c, .slice none 0 0]).run P w = .ok (.slice b n c) w := by
  cases b <;> simp [Builtin.append_, run_underlying ht, sizeOf, typeInfo, hi, hle, storeCells, Builtin.lenOf, Builtin.firstCells]

theorem elAll_app (es fs : List El) : elAll (es ++ fs) = elAll es ++ elAll fs := by simp [elAll]

theorem elAll_one (es : List El) : ∀ u ∈ elAll es, u.oneCell' = true := by
  intro u hu
  unfold elAll at hu
  obtain ⟨e, _, he⟩ := List.mem_flatMap.1 hu
  simp [elC] at he
  rcases he with rfl | rfl | rfl | rfl <;> rfl

theorem append_els {w : World} {ops : Array Oper} {rest : List Oper} {o : Oper} {a : Act} {Q : Exit → Act → World → Prop} (hgd : o.guard = none) (s x : Operand)
    (ho : o.op = .call { callee := .builtin .append, args := #[s, x], argTypes := #[83, 83] }) (B B' : Nat) (v vx : Value) (es fs : List El) (hs : a.eval s = v) (hx : a.eval x = vx) (hE : Elems w B v es) (hF : Elems w B' vx fs)
    (h63 : es.length + fs.length ≤ 1048576) (hbase : B ≤ w.heap.size) (h : ∀ v' w', Elems w' B v' (es ++ fs) → w.grownBy w' v.ownBlock → wpList Tryz.prog ops Q rest (a.put o.dst v') w') : wpList Tryz.prog ops Q (o :: rest) a w := by
  obtain ⟨i1, hi1, hz1, hs1, hy1⟩ := info_parts info_elem
  rcases hF.form with ⟨rfl, rfl⟩ | ⟨g, cap, rfl, _, _⟩
  · obtain ⟨b, n, c, rfl, hnc⟩ : ∃ b n c, v = .slice b n c ∧ n ≤ c := by
      rcases hE.form with ⟨rfl, rfl⟩ | ⟨g, cap, rfl, h1, _⟩
      · exact ⟨_, _, _, rfl, Nat.le_refl _⟩
      · exact ⟨_, _, _, rfl, h1⟩
    refine Go.Lib.wpList_append_run w hgd s x 83 83 ho _ _ hs hx _ _ (run_append_none w _ _ _ i1 Tryz.underlying83 hi1 b n c hnc) ?_
    refine h _ _ ?_ ⟨rfl, rfl, rfl, Nat.le_refl _, fun _ _ _ => rfl⟩
    rw [List.append_nil]
    exact hE
  · refine wpList_append_own w hgd s x 83 ho B 62 i1 _ 4 32 Tryz.underlying83 hi1 hz1 hs1 hy1 rfl (by decide) v es.length (elAll es) hs hE ⟨g, 0, none⟩ fs.length cap (elAll fs) hx (elAll_len fs) (fun j u hj => ?_) (elAll_one fs) (by unfold maxLen; omega) (by omega) hbase (fun v' w' h1 h2 _ => h v' w' ?_ h2)
    · have hjl : j < fs.length * 4 := by
        have := (List.getElem?_eq_some_iff.1 hj).1
        rw [elAll_len] at this
        exact this
      have := World.ownsRow.cellAt hF j hjl
      rw [hj] at this
      show w.cell? ((⟨g, 0, none⟩ : Addr).add j) = some u
      rw [← this]
      unfold Addr.add
      split
      · rename_i h0; subst h0; rfl
      · simp
    · unfold Elems
      rw [elAll_app, List.length_append]
      exact h1
end Go.Proofs.YtanfebccenfffahGreatDoor

namespace Go.Proofs.YtanfebccenfffahGreatDoor
open Go.RowKit

theorem okD_eq {zs : List Int} (h : okR zs = true) : okD zs = decide ((nD zs).length ≤ 200) := by
  unfold okD
  rw [h, Bool.true_and, nD_len]

set_option maxRecDepth 100000 in
set_option maxHeartbeats 2000000 in
theorem implD_any {w : World} {B : Nat} {v : Value} {zs : List Int} (_hz : zs.length ≤ 1048576) (hI : Ints w B v zs) (hm : Held w 0 marksF) (hc : Held w 1 capF) (ho : Held w 2 othF) :
    Calls Tryz.prog 90 #[v] w fun e w' => ∃ v', e = .returned (.tuple #[v', .bool (okD zs)]) ∧ Ints w' w.heap.size v' (ansD zs) ∧ Below w.heap.size w w' := by
  have F := fullD_any hI hm hc ho
  have hlen := fullA_len zs
  unfold ansD
  clear hI hm hc ho
  cases hok : okR zs
  · rw [hok] at F
    rw [okD_no hok, if_neg (by simp)]
    clear hok hlen
    go_enter Tryz.func90, Tryz.ntmps90
    go_wp2_with fail
    refine F.mono ?_
    rintro e w1 ⟨v1, rfl, h1, h2⟩
    clear F
    go_wp2
    go_ret2
    exact ⟨_, rfl, ⟨rfl, .inl ⟨rfl, rfl⟩⟩, h2⟩
  · rw [hok] at F
    unfold fullA at F hlen
    rw [okD_eq hok]
    rw [hok, if_pos rfl] at F hlen
    clear hok
    generalize nD zs = ds at *
    by_cases hl : ds.length ≤ 200
    · have hl2 : ¬ (200 : Int) < (ds.length : Int) := by omega
      rw [decide_eq_true hl, if_pos rfl]
      go_enter Tryz.func90, Tryz.ntmps90
      go_wp2_with fail
      refine F.mono ?_
      rintro e w1 ⟨v1, rfl, h1, h2⟩
      clear F
      rcases h1.form with ⟨rfl, rfl⟩ | ⟨g, cap, rfl, _, _⟩
      · go_wp2
        go_ret2
        exact ⟨_, rfl, h1, h2⟩
      · go_wp2
        go_ret2
        exact ⟨_, rfl, h1, h2⟩
    · have hl2 : (200 : Int) < (ds.length : Int) := by omega
      rw [decide_eq_false hl, if_neg (by simp)]
      go_enter Tryz.func90, Tryz.ntmps90
      go_wp2_with fail
      refine F.mono ?_
      rintro e w1 ⟨v1, rfl, h1, h2⟩
      clear F
      rcases h1.form with ⟨rfl, rfl⟩ | ⟨g, cap, rfl, _, _⟩
      · exact absurd (by simp) hl
      · go_wp2
        go_ret2
        exact ⟨_, rfl, ⟨rfl, .inl ⟨rfl, rfl⟩⟩, h2⟩
end Go.Proofs.YtanfebccenfffahGreatDoor

namespace Go.Proofs.YtanfebccenfffahGreatDoor
open Go.RowKit

set_option maxRecDepth 100000 in
set_option maxHeartbeats 1000000 in
theorem implDecode_any (s : ByteArray) (w : World) (hs : s.size ≤ 200) :
    Calls Tryz.prog 89 #[.string s] w fun e w' => ∃ v, e = .returned (.tuple #[v, .bool true]) ∧ Ints w' w.heap.size v (Dec.decT s.size s).1 ∧ Below w.heap.size w w' := by
  have D := fun w => readText_any s w (by omega)
  go_enter Tryz.func89, Tryz.ntmps89
  go_wp2_with (go_at_call 97; refine (D _).mono ?_; rintro e w' ⟨v, rfl, hI, hb⟩)
  go_ret2
  exact ⟨_, rfl, hI, hb⟩

set_option maxRecDepth 100000 in
set_option maxHeartbeats 1000000 in
theorem implDecode_no (s : ByteArray) (w : World) (hs : 200 < s.size) (hm : s.size ≤ 1048576) :
    Calls Tryz.prog 89 #[.string s] w fun e w' => e = .returned (.tuple #[.slice none 0 0, .bool false]) ∧ w' = w := by
  go_enter Tryz.func89, Tryz.ntmps89
  go_wp2
  go_ret2
  exact ⟨rfl, rfl⟩
end Go.Proofs.YtanfebccenfffahGreatDoor

namespace Go.Proofs.YtanfebccenfffahGreatDoor
open Go.RowKit

theorem okR_dec {x : ByteArray} (h : x.size ≤ 200) : okR (Dec.decT x.size x).1 = true := decide_eq_true ⟨Nat.le_trans (Dec.decT_len x.size x (Nat.le_refl _)).1 h, dec_good x.size x⟩

/-- The runes of a text, where they are not too many. -/
def aR (x : ByteArray) : List Int := if ok4 x = true then rn4 x else []

theorem aR_len (x : ByteArray) : (aR x).length ≤ 200 := by
  unfold aR
  split
  · rename_i h
    exact (of_decide_eq_true h).2
  · simp

set_option maxRecDepth 100000 in
set_option maxHeartbeats 4000000 in
theorem apartT_any (x : ByteArray) (hx : x.size ≤ 1048576) (u : World) (ht : Tabs3 u) :
    Calls Tryz.prog 78 #[.string x] u fun e u' => ∃ v, e = .returned (.tuple #[v, .bool (ok4 x)]) ∧ Ints u' u.heap.size v (aR x) ∧ Below u.heap.size u u' := by
  by_cases h : x.size ≤ 200
  · have D := fun w => implDecode_any x w h
    have hok := okR_dec h
    have hlen := (Dec.decT_len x.size x (Nat.le_refl _)).1
    have N := fun (u' : World) (v : Value) (hb : Below u.heap.size u u') (hI : Ints u' u.heap.size v (Dec.decT x.size x).1) => implD_any (by omega) hI (ht.below hb).1 (ht.below hb).2.1 (ht.below hb).2.2
    have ho4 : okD (Dec.decT x.size x).1 = ok4 x := by
      rw [okD_eq hok]
      unfold ok4 rn4
      rw [decide_eq_decide]
      omega
    have han : ansD (Dec.decT x.size x).1 = aR x := by
      unfold ansD aR
      rw [ho4]
      rfl
    rw [ho4, han] at N
    generalize (Dec.decT x.size x).1 = ds at *
    generalize ok4 x = ok at *
    generalize aR x = l at *
    clear hok ht ho4 han
    go_enter Tryz.func78, Tryz.ntmps78
    go_wp2_with fail
    refine (D _).mono ?_
    rintro e w1 ⟨v1, rfl, i1, b1⟩
    clear D
    have N1 := N _ _ b1 i1
    clear N i1
    go_wp2_with fail
    refine N1.mono ?_
    rintro e w2 ⟨v2, rfl, i2, b2⟩
    clear N1
    go_wp2
    go_ret2
    exact ⟨_, rfl, ints_low2 i2 b1.size, b1.trans (b2.mono b1.size)⟩
  · have D := fun w => implDecode_no x w (by omega) hx
    have h1 : ok4 x = false := decide_eq_false fun c => h c.1
    have h2 : aR x = [] := by unfold aR; rw [h1]; rfl
    rw [h1, h2]
    clear h1 h2 ht
    go_enter Tryz.func78, Tryz.ntmps78
    go_wp2_with fail
    refine (D _).mono ?_
    rintro e w1 ⟨rfl, rfl⟩
    clear D
    go_wp2
    go_ret2
    exact ⟨_, rfl, ⟨rfl, .inl ⟨rfl, rfl⟩⟩, Below.refl _ _⟩
end Go.Proofs.YtanfebccenfffahGreatDoor

namespace Go.Proofs.YtanfebccenfffahGreatDoor
open Go.RowKit

/-- What stands in the region that looks for an entry with the same runes ahead. -/
def Gin (w0 : World) (b1 b4 : Nat) (v x : Value) (u : World) : Prop := u.cell? ⟨b1, 0, none⟩ = some v ∧ u.cell? ⟨b4, 0, none⟩ = some x ∧ Below w0.heap.size w0 u
theorem Gin.keep {w0 w1 w2 : World} {b1 b4 : Nat} {v x : Value} (h1 : b1 < w0.heap.size) (h4 : b4 < w0.heap.size) (hb : Below w1.heap.size w1 w2) (h : Gin w0 b1 b4 v x w1) : Gin w0 b1 b4 v x w2 := by
  obtain ⟨a, b, c⟩ := h
  exact ⟨by rw [hb.cell (Nat.lt_of_lt_of_le h1 c.size)]; exact a, by rw [hb.cell (Nat.lt_of_lt_of_le h4 c.size)]; exact b, c.trans (hb.mono c.size)⟩

theorem Gin.set4 {w0 u : World} {b1 b4 : Nat} {v x : Value} (h1 : b1 < w0.heap.size) (h4 : b4 < w0.heap.size) (a b c d : Value) (h : Gin w0 b1 b4 v x u) : Gin w0 b1 b4 v x ((((u.setCell ⟨w0.heap.size, 0, none⟩ a).setCell ⟨w0.heap.size, 1, none⟩ b).setCell ⟨w0.heap.size, 2, none⟩ c).setCell ⟨w0.heap.size, 3, none⟩ d) := by
  obtain ⟨p, q, r⟩ := h
  have n1 : ∀ (m : World) (o : Nat) (y : Value), (m.setCell ⟨w0.heap.size, o, none⟩ y).cell? ⟨b1, 0, none⟩ = m.cell? ⟨b1, 0, none⟩ := fun m o y => World.cell?_setCell_other _ _ _ _ (fun e => by injection e; omega)
  have n4 : ∀ (m : World) (o : Nat) (y : Value), (m.setCell ⟨w0.heap.size, o, none⟩ y).cell? ⟨b4, 0, none⟩ = m.cell? ⟨b4, 0, none⟩ := fun m o y => World.cell?_setCell_other _ _ _ _ (fun e => by injection e; omega)
  exact ⟨by rw [n1, n1, n1, n1]; exact p, by rw [n4, n4, n4, n4]; exact q, (((r.setCell (Nat.le_refl _) _).setCell (Nat.le_refl _) _).setCell (Nat.le_refl _) _).setCell (Nat.le_refl _) _⟩

theorem entry_keep {u : World} {B B' n : Nat} {v vl : Value} {es : List Ent} {l : List Int} (hE : Ents u B v es) (hL : Ints u B' vl l) (hn : es.length ≤ 1048576) (hl : l.length ≤ 1048576) (hr : ∀ e ∈ es, e.runes.length ≤ 1048576) :
    Calls Tryz.prog 52 #[v, vl] u fun e w' => e = .returned (elRes (entOf es l)) ∧ Below u.heap.size u w' ∧ (∀ j, n < u.heap.size → w'.cell? ⟨n, j, none⟩ = u.cell? ⟨n, j, none⟩) ∧ ∀ j, n < u.heap.size → w'.frozen? ⟨n, j, none⟩ = u.frozen? ⟨n, j, none⟩ :=
  (entry_any hE hL hn hl hr).mono fun _ _ h => ⟨h.1, h.2, fun _ hj => h.2.cell hj, fun j hj => h.2.frozen (p := ⟨n, j, none⟩) hj⟩

theorem entOk_split (es : List Ent) (i : Nat) (e : Ent) : entOk es i e = (runesOk e.runes && (decide (atE es e.runes = (i : Int)) && elOk e.el)) := rfl

set_option maxRecDepth 100000 in
set_option maxHeartbeats 2000000 in
theorem good3i_long (w : World) (a : Option Addr) (n c : Nat) (sh : Bool) (lv : Int) (h : 40 < n) : Calls Tryz.prog 32 #[.agg #[.slice a n c, .bool sh, .int .i64 lv]] w fun e w' => e = .returned (.bool false) ∧ Below w.heap.size w w' := by
  have h2 : (40 : Int) < (n : Int) := by omega
  go_enter Tryz.func32, Tryz.ntmps32
  go_wp2
  go_ret
  exact ⟨rfl, (Below.refl _ _).alloc (Nat.le_refl _) _⟩

set_option maxRecDepth 100000 in
set_option maxHeartbeats 2000000 in
theorem good3i_lev (w : World) (a : Option Addr) (n c : Nat) (sh : Bool) (lv : Int) (h : n ≤ 40) (hl : ¬ (1 ≤ lv ∧ lv ≤ 4)) : Calls Tryz.prog 32 #[.agg #[.slice a n c, .bool sh, .int .i64 lv]] w fun e w' => e = .returned (.bool false) ∧ Below w.heap.size w w' := by
  have h2 : ¬ (40 : Int) < (n : Int) := by omega
  by_cases h3 : lv < 1
  · clear hl
    go_enter Tryz.func32, Tryz.ntmps32
    go_wp2
    go_ret
    exact ⟨rfl, (Below.refl _ _).alloc (Nat.le_refl _) _⟩
  · have h4 : 4 < lv := by omega
    clear hl
    go_enter Tryz.func32, Tryz.ntmps32
    go_wp2
    go_ret
    exact ⟨rfl, (Below.refl _ _).alloc (Nat.le_refl _) _⟩

set_option maxRecDepth 100000 in
set_option maxHeartbeats 2000000 in
theorem good3i_nil (w : World) (sh : Bool) (lv : Int) (hl : 1 ≤ lv ∧ lv ≤ 4) : Calls Tryz.prog 32 #[.agg #[.slice none 0 0, .bool sh, .int .i64 lv]] w fun e w' => e = .returned (.bool true) ∧ Below w.heap.size w w' := by
  obtain ⟨h3, h4⟩ := hl
  go_enter Tryz.func32, Tryz.ntmps32
  go_wp2
  go_loop [24] (fun i => i = .int .i64 0) (fun _ => 0)
  case atStart => rfl
  case round =>
    subst hrel
    go_wp2
    go_ret
    exact ⟨rfl, (Below.refl _ _).alloc (Nat.le_refl _) _⟩

/-- The block of an entry that is looked at. -/
def Eb (u : World) (b : Nat) (x : Value) (e : El) : Prop := u.heap[b]? = some (.cells #[x, .int .i64 e.first, .int .i64 e.second, .int .i64 e.third, .bool e.varies] 64)
theorem Eb.facts {u : World} {b : Nat} {x : Value} {e : El} (h : Eb u b x e) : b < u.heap.size ∧ u.cell? ⟨b, 0, none⟩ = some x ∧ u.cell? ⟨b, 1, none⟩ = some (.int .i64 e.first) ∧ u.cell? ⟨b, 2, none⟩ = some (.int .i64 e.second) ∧ u.cell? ⟨b, 3, none⟩ = some (.int .i64 e.third) ∧ u.cell? ⟨b, 4, none⟩ = some (.bool e.varies) :=
  ⟨(Array.getElem?_eq_some_iff.1 h).1, cell_of_row _ _ 0 _ _ _ h, cell_of_row _ _ 1 _ _ _ h, cell_of_row _ _ 2 _ _ _ h, cell_of_row _ _ 3 _ _ _ h, cell_of_row _ _ 4 _ _ _ h⟩
theorem Eb.below {u u' : World} {b : Nat} {x : Value} {e : El} (h : Eb u b x e) (hb : Below u.heap.size u u') : Eb u' b x e := (hb.block _ h.facts.1).trans h

set_option maxRecDepth 100000 in
set_option maxHeartbeats 8000000 in
theorem good3i_row (w : World) (B g cap : Nat) (es : List Ent) (sh : Bool) (lv : Int) (hE : Ents w B (.slice (some ⟨g, 0, none⟩) es.length cap) es) (hn : es.length ≤ 40) (hl : 1 ≤ lv ∧ lv ≤ 4) (hr : ∀ e ∈ es, e.runes.length ≤ 1048576) (ht : Tabs3 w) :
    Calls Tryz.prog 32 #[.agg #[.slice (some ⟨g, 0, none⟩) es.length cap, .bool sh, .int .i64 lv]] w fun e w' => e = .returned (.bool (rulesOk es lv)) ∧ Below w.heap.size w w' := by
  obtain ⟨hl1, hl2⟩ := hl
  have hn2 : ¬ (40 : Int) < (es.length : Int) := by omega
  have HT : Hid (Tabs3 w) := ht
  have hcap : es.length ≤ cap ∧ cap ≤ maxLen := by
    rcases hE.form with ⟨h, _⟩ | ⟨_, _, h, h2, h3, _, _⟩
    · cases h
    · cases h; exact ⟨h2, h3⟩
  unfold maxLen at hcap
  clear ht
  go_enter Tryz.func32, Tryz.ntmps32
  go_wp2
  go_loopw [24] (fun i wr => GRel w (.slice (some ⟨g, 0, none⟩) es.length cap) sh lv es i wr) (fun i _ => es.length - (intOf i).toNat)
  case atStart => exact ⟨0, Nat.zero_le _, rfl, fun i e hi => by omega, ⟨by simp, by simp [World.cell?_alloc_new], by simp [World.cell?_alloc_new], by simp [World.cell?_alloc_new]⟩, (Below.refl _ _).alloc (Nat.le_refl _) _⟩
  case round =>
    obtain ⟨k, hk, rfl, HN0, hbx, hb⟩ := hrel
    have HN : Hid (EntsTo es k) := HN0
    clear HN0
    by_cases hlt : k < es.length
    · obtain ⟨e, he⟩ : ∃ e, es[k]? = some e := ⟨_, List.getElem?_eq_getElem hlt⟩
      obtain ⟨x, hI, a0, a1, a2, a3, a4⟩ := (hE.below hb).cells k e he
      obtain ⟨xa, xn, xc, rfl⟩ : ∃ xa xn xc, x = .slice xa xn xc := by
        rcases hI.form with ⟨rfl, _⟩ | ⟨_, _, rfl, _, _⟩
        · exact ⟨_, _, _, rfl⟩
        · exact ⟨_, _, _, rfl⟩
      have hk8 : (k : Int) < (es.length : Int) := by omega
      have hrl := hr e (List.mem_of_getElem? he)
      have hbr := (Below.refl wr.heap.size wr).alloc (Nat.le_refl _) (.cells #[.slice xa xn xc, .int .i64 e.el.first, .int .i64 e.el.second, .int .i64 e.el.third, .bool e.el.varies] 64)
      have hba := hb.trans (hbr.mono hb.size)
      have hE2 := (hE.below hb).below hbr
      have JN := joined_any hrl (hI.below hbr) ((HT.out.below hb).below hbr)
      have HE : Hid _ := he
      have HI2 : Hid (Ints _ _ _ _) := hI.below hbr
      have HE2 : Hid (Ents _ _ _ _) := hE2
      have HB : Hid (Below _ _ _) := hba
      have HX : Hid (Box3 _ _ _ _ _) := hbx.below hbr
      have HG : Hid (Eb _ _ _ _) := show Eb (wr.alloc _) wr.heap.size (.slice xa xn xc) e.el from heap_alloc_new _ _
      clear he hI hE2 hba hbr hbx hb HT
      go_wp2_with fail
      refine JN.mono ?_
      rintro e' w2 ⟨rfl, b2⟩
      have c2 : Hid (Below _ _ _) := HB.out.trans (b2.mono HB.out.size)
      have g2 : Hid (Eb _ _ _ _) := HG.out.below b2
      have x2 : Hid (Box3 _ _ _ _ _) := HX.out.below b2
      have i2 : Hid (Ints _ _ _ _) := HI2.out.below b2
      have ee2 : Hid (Ents _ _ _ _) := HE2.out.below b2
      clear JN a0 a1 a2 a3 a4 HB HX HG HI2 HE2 b2
      cases r1 : runesOk e.runes
      · have HF : Hid (rulesOk es lv = false) := rulesOk_ent HE.out (by rw [entOk_split, r1, Bool.false_and])
        clear HN HE hE hr
        go_wp2
        go_ret
        rw [HF.out]
        exact ⟨rfl, c2.out⟩
      · obtain ⟨_, d0, d1, d2, d3, d4⟩ := g2.out.facts
        have GE := fun w => goodElem_any e.el w
        go_wp2_with fail
        refine (GE _).mono ?_
        rintro e' w3 ⟨rfl, b3⟩
        have c3 : Hid (Below _ _ _) := c2.out.trans (b3.mono c2.out.size)
        have g3 : Hid (Eb _ _ _ _) := g2.out.below b3
        have x3 : Hid (Box3 _ _ _ _ _) := x2.out.below b3
        have i3 : Hid (Ints _ _ _ _) := i2.out.below b3
        have ee3 : Hid (Ents _ _ _ _) := ee2.out.below b3
        clear GE d0 d1 d2 d3 d4 c2 g2 x2 i2 ee2 b3
        cases r2 : elOk e.el
        · have HF : Hid (rulesOk es lv = false) := rulesOk_ent HE.out (by rw [entOk_split, r2]; simp)
          clear HN HE hE hr
          go_wp2
          go_ret
          rw [HF.out]
          exact ⟨rfl, c3.out⟩
        · have hk9 : (k : Int) ≤ (cap : Int) := by omega
          have hg4 := g3.out.facts.1
          have hg1 := x3.out.1
          have hS : w3.cell? ⟨w.heap.size, 0, none⟩ = some (.slice (some ⟨g, 0, none⟩) es.length cap) ∧ w3.cell? ⟨wr.heap.size, 0, none⟩ = some (.slice xa xn xc) ∧ Below w3.heap.size w3 w3 := ⟨x3.out.2.1, g3.out.facts.2.1, Below.refl _ _⟩
          have hS2 := Gin.keep hg1 hg4 ((Below.refl w3.heap.size w3).drew) hS
          have K := fun (u1 u2 : World) (hb : Below u1.heap.size u1 u2) (hu : u1.cell? ⟨w.heap.size, 0, none⟩ = some (.slice (some ⟨g, 0, none⟩) es.length cap) ∧ u1.cell? ⟨wr.heap.size, 0, none⟩ = some (.slice xa xn xc) ∧ Below w3.heap.size w3 u1) => Gin.keep hg1 hg4 hb hu
          have hS3 := Gin.keep hg1 hg4 (((Below.refl w3.heap.size w3).alloc (Nat.le_refl _) (.cells #[.int .i64 0, .int .i64 0, .int .i64 0, .bool false] 62)).drew) hS
          have K4 := fun (u : World) (a b c d : Value) (hu : u.cell? ⟨w.heap.size, 0, none⟩ = some (.slice (some ⟨g, 0, none⟩) es.length cap) ∧ u.cell? ⟨wr.heap.size, 0, none⟩ = some (.slice xa xn xc) ∧ Below w3.heap.size w3 u) => Gin.set4 hg1 hg4 a b c d hu
          unfold Gin at hS2 hS3 K K4
          have EN := fun (u : World) (hu : u.cell? ⟨w.heap.size, 0, none⟩ = some (.slice (some ⟨g, 0, none⟩) es.length cap) ∧ u.cell? ⟨wr.heap.size, 0, none⟩ = some (.slice xa xn xc) ∧ Below w3.heap.size w3 u) => entry_keep (n := w3.heap.size) ((ee3.out.below hu.2.2).take k hk) (i3.out.below hu.2.2) (by rw [List.length_take]; omega) hrl (fun x hx => hr x (List.mem_of_mem_take hx))
          have HW : Hid (entOf (es.take k) e.runes = none ↔ atE es e.runes = (k : Int)) := atE_here HE.out
          obtain ⟨o, ho⟩ : ∃ o, entOf (es.take k) e.runes = o := ⟨_, rfl⟩
          rw [ho] at EN
          unfold elRes elV at EN
          have HO : Hid (entOf (es.take k) e.runes = o) := ho
          clear ho
          have HXE : Hid (o.isSome = false → EntsTo es (k + 1)) := fun c => HN.out.succ HE.out (by rw [entOk_split, r1, r2, decide_eq_true (HW.out.1 (by rw [HO.out]; simpa using c))]; rfl)
          have HXF : Hid (o.isSome = true → rulesOk es lv = false) := fun c => rulesOk_ent HE.out (by
            have : ¬ atE es e.runes = (k : Int) := fun d => by rw [HW.out.2 d] at HO; have := HO.out; rw [← this] at c; simp at c
            rw [entOk_split, decide_eq_false this]; simp)
          clear HW HO HE HN r1 r2 ee3 i3
          generalize elOf o = x0 at *
          generalize o.isSome = ob at *
          go_wp2_with fail
          go_region_held3 (fun u => u.cell? ⟨w.heap.size, 0, none⟩ = some (.slice (some ⟨g, 0, none⟩) es.length cap) ∧ u.cell? ⟨wr.heap.size, 0, none⟩ = some (.slice xa xn xc) ∧ Below w3.heap.size w3 u)
            (first
              | with_reducible exact hS2
              | with_reducible exact hS3
              | with_reducible exact K _ _ (by assumption) (by assumption)
              | (with_reducible refine K4 _ _ _ _ _ ?_; first | assumption | exact K _ _ (by assumption) (by assumption))
              | (with_reducible refine K _ _ ((Below.refl _ _).alloc (Nat.le_refl _) _) ?_; first | assumption | exact hS2 | exact K _ _ (by assumption) (by assumption)))
            ((go_at_call 52; refine (EN _ (by assumption)).mono ?_; rintro e' w' ⟨rfl, hbw, hcw, hfw⟩))
          all_goals
            clear hS hS2 hS3 K K4 EN
            obtain ⟨_, _, hE9⟩ := (show _ ∧ _ ∧ Below w3.heap.size w3 _ by assumption)
            have x4 : Hid (Box3 _ _ _ _ _) := x3.out.below hE9
            have c4 : Hid (Below _ _ _) := c3.out.trans (hE9.mono c3.out.size)
            cases ob
            · have HN2 : Hid (EntsTo es (k + 1)) := HXE.out rfl
              clear HXE HXF hE9 hr hE
              go_wp2
              exact ⟨⟨k + 1, by omega, by go_num, HN2.out, x4.out, c4.out⟩, by simp [intOf]; omega⟩
            · have HF : Hid (rulesOk es lv = false) := HXF.out rfl
              clear HXE HXF hE9 hr hE
              go_wp2
              go_ret
              rw [HF.out]
              exact ⟨rfl, c4.out⟩
    · have HA : Hid (rulesOk es lv = true) := rulesOk_all HN.out (by omega) hn ⟨hl1, hl2⟩
      clear HN hE hr
      go_wp2
      go_ret
      rw [HA.out]
      exact ⟨rfl, hb⟩

theorem implGood3_any {w : World} {B : Nat} {v : Value} {es : List Ent} {sh : Bool} {lv : Int} (hE : Ents w B v es) (hr : ∀ e ∈ es, e.runes.length ≤ 1048576) (ht : Tabs3 w) :
    Calls Tryz.prog 32 #[.agg #[v, .bool sh, .int .i64 lv]] w fun e w' => e = .returned (.bool (rulesOk es lv)) ∧ Below w.heap.size w w' := by
  obtain ⟨a, c, rfl⟩ : ∃ a c, v = .slice a es.length c := by
    rcases hE.form with ⟨rfl, rfl⟩ | ⟨g, cap, rfl, _, _, _, _⟩
    · exact ⟨_, _, rfl⟩
    · exact ⟨_, _, rfl⟩
  by_cases h1 : es.length ≤ 40
  · by_cases h2 : 1 ≤ lv ∧ lv ≤ 4
    · rcases hE.form with ⟨h, rfl⟩ | ⟨g, cap, h, _, _, _, _⟩
      · rw [h]
        have e0 : rulesOk [] lv = true := decide_eq_true ⟨by simp, h2, rfl⟩
        rw [e0]
        exact good3i_nil w sh lv h2
      · rw [h] at hE ⊢
        exact good3i_row w B g cap es sh lv hE h1 h2 hr ht
    · rw [rulesOk_head (fun h => h2 h.2)]
      exact good3i_lev w a es.length c sh lv h1 h2
  · rw [rulesOk_head (fun h => h1 h.1)]
    exact good3i_long w a es.length c sh lv (by omega)
end Go.Proofs.YtanfebccenfffahGreatDoor

namespace Go.Proofs.YtanfebccenfffahGreatDoor
open Go.RowKit

theorem elsOf_some {es : List Ent} {run : List Int} {e : El} (h : entOf es run = some e) : elsOf es run = [e] := by unfold elsOf; rw [h]
theorem elsOf_none {es : List Ent} {run : List Int} (h : entOf es run = none) : elsOf es run = base (at0 run 0) := by unfold elsOf; rw [h]

set_option maxRecDepth 100000 in
set_option maxHeartbeats 4000000 in
theorem elemsOf_any {w : World} {B B' : Nat} {ve v : Value} {es : List Ent} {run : List Int} (hE : Ents w B ve es) (hn : es.length ≤ 1048576) (hr : ∀ e ∈ es, e.runes.length ≤ 1048576) (ht : Tabs3 w) (hI : Ints w B' v run) (h1 : 1 ≤ run.length) (hg : ∀ x ∈ run, goodB x = true) :
    Calls Tryz.prog 92 #[ve, v] w fun e w' => ∃ v', e = .returned v' ∧ Elems w' w.heap.size v' (elsOf es run) ∧ Below w.heap.size w w' := by
  have EN := entryAt_any hE hI.rowAt hn hr
  obtain ⟨x, hx⟩ : ∃ x, run[0]? = some x := ⟨_, List.getElem?_eq_getElem (by omega)⟩
  have hx0 : at0 run 0 = x := by unfold at0; rw [hx]; rfl
  have hgx := hg x (List.mem_of_getElem? hx)
  obtain ⟨q0, q1, q2⟩ := goodB_true hgx
  obtain ⟨gv, cv, rfl, _, hgv, hcv⟩ := ints_form1 hI h1
  have c0 : w.cell? ⟨gv, 0, none⟩ = some (.int .i64 x) := hcv 0 x hx
  have hl8 : (0 : Int) < (run.length : Int) := by omega
  have W := fun (u : World) (hu : Below w.heap.size w u) => weight_any x q0 q1 (by omega) u ((ht.below hu).1)
  obtain ⟨va, vn, vc, rfl⟩ : ∃ a n c, ve = .slice a n c := by
    rcases hE.form with ⟨rfl, _⟩ | ⟨_, _, rfl, _, _, _, _⟩
    · exact ⟨_, _, _, rfl⟩
    · exact ⟨_, _, _, rfl⟩
  clear hE hI hg hgx hcv ht
  cases ho : entOf es run with
  | some e =>
    rw [ho] at EN
    rw [elsOf_some ho]
    unfold elRes elV elOf at EN
    simp only [Option.getD_some, Option.isSome_some] at EN
    clear ho W
    go_enter Tryz.func92, Tryz.ntmps92
    go_wp2_with fail
    refine EN.mono ?_
    rintro x w2 ⟨rfl, b2⟩
    clear EN c0
    go_wp2
    go_ret
    exact ⟨_, rfl, elems_block [e] rfl rfl (heap_alloc2_new w2 _ _) (by have := b2.size; omega) (by unfold maxLen; omega), (b2.alloc b2.size _).alloc (b2.alloc b2.size _).size _⟩
  | none =>
    rw [ho] at EN
    rw [elsOf_none ho, hx0]
    unfold elRes elV elOf at EN
    simp only [Option.getD_none, Option.isSome_none] at EN
    clear ho
    rcases base_cases x with hb | ⟨e, hb⟩ | ⟨e, f, hb⟩
    · rw [hb] at W ⊢
      unfold wtV at W
      have mt : ∀ (k : Nat) (w : World), (method (k + 1) 147 (.agg #[]) "loop.example/g00158/impl.elems").run Tryz.prog w = .ok (134, .agg #[]) w := fun _ _ => by kernel_rfl
      clear hb
      go_enter Tryz.func92, Tryz.ntmps92
      go_wp2_with fail
      refine EN.mono ?_
      rintro x w2 ⟨rfl, b2⟩
      clear EN
      have b3 : Below w.heap.size w (w2.alloc (.cells #[.int .i64 0, .int .i64 0, .int .i64 0, .bool false] 62)) := b2.alloc b2.size _
      have W1 := W _ b3
      have c2 : w2.cell? ⟨gv, 0, none⟩ = some (.int .i64 _) := (b2.cell hgv).trans c0
      have hgv2 : gv < w2.heap.size := Nat.lt_of_lt_of_le hgv b2.size
      clear W c0
      go_wp2_with fail
      refine W1.mono ?_
      rintro x w4 ⟨rfl, b4⟩
      have b5 := b3.trans (b4.mono b3.size)
      clear W1 b4 b3
      go_wp2
      go_ret
      exact ⟨_, rfl, ⟨rfl, .inl ⟨rfl, rfl⟩⟩, b5.alloc b5.size _⟩
    · rw [hb] at W ⊢
      unfold wtV at W
      have mt : ∀ (k : Nat) (w : World), (method (k + 1) 150 (.agg #[.int .i64 e.first, .int .i64 e.second, .int .i64 e.third, .bool e.varies]) "loop.example/g00158/impl.elems").run Tryz.prog w = .ok (135, .agg #[.int .i64 e.first, .int .i64 e.second, .int .i64 e.third, .bool e.varies]) w := fun _ _ => by kernel_rfl
      clear hb
      go_enter Tryz.func92, Tryz.ntmps92
      go_wp2_with fail
      refine EN.mono ?_
      rintro x w2 ⟨rfl, b2⟩
      clear EN
      have b3 : Below w.heap.size w (w2.alloc (.cells #[.int .i64 0, .int .i64 0, .int .i64 0, .bool false] 62)) := b2.alloc b2.size _
      have W1 := W _ b3
      have c2 : w2.cell? ⟨gv, 0, none⟩ = some (.int .i64 _) := (b2.cell hgv).trans c0
      have hgv2 : gv < w2.heap.size := Nat.lt_of_lt_of_le hgv b2.size
      clear W c0
      go_wp2_with fail
      refine W1.mono ?_
      rintro x w4 ⟨rfl, b4⟩
      have b5 := b3.trans (b4.mono b3.size)
      clear W1 b4 b3
      go_wp2
      go_ret
      exact ⟨_, rfl, elems_block [e] rfl rfl (heap_alloc2_new w4 _ _) (by have := b5.size; omega) (by unfold maxLen; omega), (b5.alloc b5.size _).alloc (b5.alloc b5.size _).size _⟩
    · rw [hb] at W ⊢
      unfold wtV at W
      have mt : ∀ (k : Nat) (w : World), (method (k + 1) 153 (.agg #[.int .i64 e.first, .int .i64 e.second, .int .i64 e.third, .bool e.varies, .int .i64 f.first, .int .i64 f.second, .int .i64 f.third, .bool f.varies]) "loop.example/g00158/impl.elems").run Tryz.prog w = .ok (136, .agg #[.int .i64 e.first, .int .i64 e.second, .int .i64 e.third, .bool e.varies, .int .i64 f.first, .int .i64 f.second, .int .i64 f.third, .bool f.varies]) w := fun _ _ => by kernel_rfl
      clear hb
      go_enter Tryz.func92, Tryz.ntmps92
      go_wp2_with fail
      refine EN.mono ?_
      rintro x w2 ⟨rfl, b2⟩
      clear EN
      have b3 : Below w.heap.size w (w2.alloc (.cells #[.int .i64 0, .int .i64 0, .int .i64 0, .bool false] 62)) := b2.alloc b2.size _
      have W1 := W _ b3
      have c2 : w2.cell? ⟨gv, 0, none⟩ = some (.int .i64 _) := (b2.cell hgv).trans c0
      have hgv2 : gv < w2.heap.size := Nat.lt_of_lt_of_le hgv b2.size
      clear W c0
      go_wp2_with fail
      refine W1.mono ?_
      rintro x w4 ⟨rfl, b4⟩
      have b5 := b3.trans (b4.mono b3.size)
      clear W1 b4 b3
      go_wp2
      go_ret
      exact ⟨_, rfl, elems_block [e, f] rfl rfl (heap_alloc2_new w4 _ _) (by have := b5.size; omega) (by unfold maxLen; omega), (b5.alloc b5.size _).alloc (b5.alloc b5.size _).size _⟩
end Go.Proofs.YtanfebccenfffahGreatDoor

namespace Go.Proofs.YtanfebccenfffahGreatDoor
open Go.RowKit

theorem els_low {w : World} {B B' : Nat} {v : Value} {es : List El} (h : Elems w B' v es) (hB : B ≤ B') : Elems w B v es := by
  refine ⟨h.1, ?_⟩
  rcases h.2 with h | ⟨g, cap, cur, h1, h2, h3⟩
  · exact .inl h
  · exact .inr ⟨g, cap, cur, h1, Nat.le_trans hB h2, h3⟩

theorem aR_good (x : ByteArray) : ∀ y ∈ aR x, goodB y = true := by
  unfold aR
  split
  · intro y hy
    exact apD_good (dec_good x.size x) y (mem_sortM.1 hy)
  · intro y hy; cases hy

/-- The rules' block. -/
def BoxR4 (u : World) (b : Nat) (v : Value) (sh : Bool) (lv : Int) : Prop := u.heap[b]? = some (.cells #[v, .bool sh, .int .i64 lv] 33)

theorem BoxR4.below {B b : Nat} {u u' : World} {v : Value} {sh : Bool} {lv : Int} (h : BoxR4 u b v sh lv) (hb : Below B u u') (hlt : b < B) : BoxR4 u' b v sh lv := (hb.block b hlt).trans h

theorem BoxR4.cells {b : Nat} {u : World} {v : Value} {sh : Bool} {lv : Int} (h : BoxR4 u b v sh lv) : u.cell? ⟨b, 0, none⟩ = some v ∧ u.cell? ⟨b, 1, none⟩ = some (.bool sh) ∧ u.cell? ⟨b, 2, none⟩ = some (.int .i64 lv) :=
  ⟨cell_of_row _ _ 0 _ _ _ h, cell_of_row _ _ 1 _ _ _ h, cell_of_row _ _ 2 _ _ _ h⟩

def EiRel (w0 : World) (es : List Ent) (goal : List El) (v6 v8 : Value) (wr : World) : Prop :=
  ∃ (g : Nat) (rest : List Int) (done : List El), w0.heap.size ≤ g ∧ rest.length ≤ 200 ∧ done.length + 2 * rest.length ≤ 400 ∧ (∀ x ∈ rest, goodB x = true) ∧ MidG wr g v6 rest ∧ Elems wr w0.heap.size v8 done ∧ done ++ elems4 es rest = goal ∧ Below w0.heap.size w0 wr

theorem els_apart {u u' : World} {B g : Nat} {v : Value} {es : List El} {cs : Array Value} (h : Elems u B v es) (hg : u.grownBy u' (some g)) (hc : u.heap[g]? = some (.cells cs 3)) : Elems u' B v es := by
  refine World.ownsRow.kept h hg ?_
  rcases h.2 with ⟨rfl, _⟩ | ⟨g', cap, cur, rfl, _, h3, _⟩
  · exact .inl rfl
  · refine .inr fun e => ?_
    have e2 : g' = g := Option.some.inj e
    subst e2
    rw [hc] at h3
    injection h3 with h4
    injection h4 with _ h5
    exact absurd h5 (by decide)

set_option maxRecDepth 100000 in
set_option maxHeartbeats 8000000 in
/-- The elems of runes that lie in memory made behind wb. -/
theorem elemsRn_any {w wb : World} {B : Nat} {ve v : Value} {es : List Ent} {rs : List Int} (hbw : Below wb.heap.size wb w) (hE : Ents wb B ve es) (hne : es.length ≤ 1048576) (hr : ∀ e ∈ es, e.runes.length ≤ 1048576) (ht : Tabs3 wb) (hI : Ints w wb.heap.size v rs) (hlen : rs.length ≤ 200) (hgood : ∀ x ∈ rs, goodB x = true) :
    Calls Tryz.prog 79 #[ve, v] w fun e w' => ∃ v', e = .returned v' ∧ Elems w' wb.heap.size v' (elems4 es rs) ∧ Below wb.heap.size wb w' := by
  obtain ⟨va, vc, rfl⟩ : ∃ a c, ve = .slice a es.length c := by
    rcases hE.form with ⟨rfl, rfl⟩ | ⟨_, _, rfl, _, _, _, _⟩
    · exact ⟨_, _, rfl⟩
    · exact ⟨_, _, rfl⟩
  have HS2 : Hid (EiRel wb es (elems4 es rs) v (.slice none 0 0) w) := by
    rcases hI.midI with h | ⟨g, f, c, cs, h1, h2, h3, h4, h5, h6⟩
    · exact ⟨wb.heap.size, rs, [], Nat.le_refl _, hlen, by simp; omega, hgood, .inl h, ⟨rfl, .inl ⟨rfl, rfl⟩⟩, rfl, hbw⟩
    · exact ⟨g, rs, [], h4, hlen, by simp; omega, hgood, .inr ⟨f, c, cs, h1, h2, h3, h5, h6⟩, ⟨rfl, .inl ⟨rfl, rfl⟩⟩, rfl, hbw⟩
  have HE : Hid (Ents _ _ _ _) := hE
  have HT : Hid (Tabs3 _) := ht
  generalize elems4 es rs = goal at *
  clear hlen hgood hI hbw hE ht
  go_enter Tryz.func79, Tryz.ntmps79
  go_wp2_with fail
  go_loopw [1, 5] (fun v6 v8 wr => EiRel wb es goal v6 v8 wr) (fun v6 _ _ => sliceLen v6)
  case atStart => exact HS2.out
  case round =>
    clear HS2
    obtain ⟨g, rest, done, hg0, hrl, hdl, hgd, hM, hD, hgo, hbr⟩ := hrel
    have hl6 := hM.len
    have HGO : Hid (done ++ elems4 es rest = goal) := hgo
    clear hgo
    by_cases h0 : rest.length = 0
    · have hr0 : rest = [] := List.eq_nil_of_length_eq_zero h0
      subst hr0
      have HF : Hid (done = goal) := by show _ = _; rw [← HGO.out, elems4_nil, List.append_nil]
      obtain ⟨a6, c6, rfl⟩ : ∃ a c, u1 = .slice a 0 c := by
        rcases hM with ⟨a, c, h, _⟩ | ⟨f, c, cs, h, _⟩
        · exact ⟨a, c, h⟩
        · exact ⟨_, _, h⟩
      have HD : Hid (Elems _ _ _ _) := hD
      have HBR : Hid (Below _ _ _) := hbr
      clear hM HGO hD hbr
      go_wp2
      go_ret
      rw [← HF.out]
      exact ⟨_, rfl, HD.out, HBR.out⟩
    · obtain ⟨f, c, cs, h61, h62, h63, h64, h65⟩ : ∃ f c cs, u1 = .slice (some ⟨g, f, none⟩) rest.length c ∧ rest.length ≤ c ∧ c ≤ maxLen ∧ wr.heap[g]? = some (.cells cs 3) ∧ ∀ j x, rest[j]? = some x → wr.cell? ⟨g, f + j, none⟩ = some (.int .i64 x) := by
        rcases hM with ⟨a, c, _, h⟩ | h
        · subst h; exact absurd rfl h0
        · exact h
      subst h61
      have hk := take4_kept (es := es) (l := rest) (by omega)
      have TR := takeRun_row wr wb B g f c cs (.slice va es.length vc) es rest hbr HE.out hne hr HT.out hg0 (by omega) (by omega) h62 h63 h64 h65
      have HGO2 : Hid ((done ++ elsOf es (take4 es rest).1) ++ elems4 es (take4 es rest).2 = goal) := by
        show _ = _
        rw [← HGO.out, elems4_step (es := es) (l := rest) (by omega), List.append_assoc]
      have hel := elsOf_len es (take4 es rest).1
      obtain ⟨k1, k2, k3, k4, k5⟩ := hk
      generalize (take4 es rest).1 = run at *
      generalize (take4 es rest).2 = rest2 at *
      have HG64 : Hid (wr.heap[g]? = some (.cells cs 3)) := h64
      have hgr : ∀ x ∈ run, goodB x = true := fun x hx => hgd x (k4 x hx)
      have hgr2 : ∀ x ∈ rest2, goodB x = true := fun x hx => hgd x (k5 x hx)
      have HGR2 : Hid (∀ x ∈ rest2, goodB x = true) := hgr2
      have HGR : Hid (∀ x ∈ run, goodB x = true) := hgr
      have HD : Hid (Elems _ _ _ _) := hD
      have hszr := hbr.size
      have h08 : (0 : Int) < (rest.length : Int) := by omega
      clear h64 h65 hM HGO hgd hgr hgr2 hD k3 k4 k5 hbr
      go_wp2_with fail
      refine TR.mono ?_
      rintro e w3 ⟨vr, vq, rfl, ir, mq, b3, g3⟩
      clear TR
      have HD3 : Hid (Elems w3 wb.heap.size u5 done) := els_apart HD.out g3 HG64.out
      have EO := elemsOf_any (HE.out.below b3) hne hr (HT.out.below b3) ir k2 HGR.out
      have hsz3 := b3.size
      have HMQ : Hid (MidG _ _ _ _) := mq
      have HB3 : Hid (Below _ _ _) := b3
      clear HD g3 HG64 ir mq b3 HGR
      go_wp2_with fail
      refine EO.mono ?_
      rintro e w4 ⟨v4, rfl, e4, b4⟩
      clear EO
      have b4' : Below wb.heap.size wb w4 := HB3.out.trans (b4.mono HB3.out.size)
      have d4 : Elems w4 wb.heap.size u5 done := HD3.out.below b4
      have m4 : MidG w4 g vq rest2 := HMQ.out.below b4
      have HM4 : Hid (MidG _ _ _ _) := m4
      have HB4 : Hid (Below _ _ _) := b4'
      have hsz4 := b4'.size
      clear HD3 HMQ HB3 b4 b4' m4
      go_wp2_with (at_builtin; refine append_els rfl _ _ rfl wb.heap.size _ u5 v4 done (elsOf es run) rfl rfl d4 e4 (by omega) (by omega) ?_)
      intro v5 w5 e5 g5
      have HM5 : Hid (MidG w5 g vq rest2) := by
        rcases HM4.out with h | ⟨f, c, cs, q1, q2, q3, q4, q5⟩
        · exact .inl h
        · refine MidG.kept (.inr ⟨f, c, cs, q1, q2, q3, q4, q5⟩) g5 fun c => ?_
          rcases d4.2 with ⟨rfl, _⟩ | ⟨g', cap, cur, rfl, _, h3, _⟩
          · cases c
          · have e2 : g = g' := Option.some.inj c
            subst e2
            rw [q4] at h3
            injection h3 with h4
            injection h4 with _ h5
            exact absurd h5 (by decide)
      have HB5 : Hid (Below wb.heap.size wb w5) := Below.grown HB4.out g5 HB4.out.size (fun j hj => (World.ownsRow.lt d4 j hj).1)
      have HE5 : Hid (Elems _ _ _ _) := e5
      clear e5 g5 d4 e4 HM4 HB4
      go_wp2
      refine ⟨⟨g, rest2, done ++ elsOf es run, hg0, by omega, by rw [List.length_append]; omega, HGR2.out, HM5.out, HE5.out, HGO2.out, HB5.out⟩, ?_⟩
      have := HM5.out.len
      show sliceLen _ < sliceLen _
      rw [this]
      show _ < rest.length
      omega

set_option maxRecDepth 100000 in
set_option maxHeartbeats 8000000 in
theorem implElemsIn_any {w : World} {B : Nat} {ve : Value} {es : List Ent} {sh : Bool} {lv : Int} (x : ByteArray) (hx : x.size ≤ 1048576) (hE : Ents w B ve es) (hr : ∀ e ∈ es, e.runes.length ≤ 1048576) (ht : Tabs3 w) :
    Calls Tryz.prog 68 #[.agg #[ve, .bool sh, .int .i64 lv], .string x] w fun e w' => ∃ v', e = .returned (.tuple #[v', .bool (okE es lv x)]) ∧ Elems w' w.heap.size v' (elsA es lv x) ∧ Below w.heap.size w w' := by
  obtain ⟨va, vc, rfl⟩ : ∃ a c, ve = .slice a es.length c := by
    rcases hE.form with ⟨rfl, rfl⟩ | ⟨_, _, rfl, _, _, _, _⟩
    · exact ⟨_, _, rfl⟩
    · exact ⟨_, _, rfl⟩
  have hbx : Below w.heap.size w (w.alloc (.cells #[.slice va es.length vc, .bool sh, .int .i64 lv] 33)) := (Below.refl _ _).alloc (Nat.le_refl _) _
  have hbox : BoxR4 (w.alloc (.cells #[.slice va es.length vc, .bool sh, .int .i64 lv] 33)) w.heap.size (.slice va es.length vc) sh lv := heap_alloc_new w _
  have AT := apartT_any x hx (w.alloc (.cells #[.slice va es.length vc, .bool sh, .int .i64 lv] 33)) (ht.below hbx)
  have hlen := aR_len x
  have hgood := aR_good x
  unfold elsA okE
  have HE : Hid (Ents _ _ _ _) := hE.below hbx
  have HT : Hid (Tabs3 _) := ht.below hbx
  clear hE ht
  cases hok : ok4 x
  · rw [hok] at AT
    rw [Bool.false_and, if_neg (by simp)]
    clear hok
    go_enter Tryz.func68, Tryz.ntmps68
    go_wp2_with fail
    refine AT.mono ?_
    rintro e w1 ⟨v1, rfl, i1, b1⟩
    clear AT
    go_wp2
    go_ret2
    exact ⟨_, rfl, ⟨rfl, .inl ⟨rfl, rfl⟩⟩, hbx.trans (b1.mono hbx.size)⟩
  · have har : aR x = rn4 x := by unfold aR; rw [hok]; rfl
    rw [hok, har] at AT
    rw [har] at hlen hgood
    rw [Bool.true_and]
    clear hok har
    generalize rn4 x = rs at *
    have GR := fun (u : World) (hu : Below (w.alloc (.cells #[.slice va es.length vc, .bool sh, .int .i64 lv] 33)).heap.size (w.alloc (.cells #[.slice va es.length vc, .bool sh, .int .i64 lv] 33)) u) => implGood3_any (sh := sh) (lv := lv) (HE.out.below hu) hr (HT.out.below hu)
    have hlb : w.heap.size < (w.alloc (.cells #[.slice va es.length vc, .bool sh, .int .i64 lv] 33)).heap.size := by simp
    cases hro : rulesOk es lv
    · rw [hro] at GR
      rw [if_neg (by simp)]
      clear hro
      go_enter Tryz.func68, Tryz.ntmps68
      go_wp2_with fail
      refine AT.mono ?_
      rintro e w1 ⟨v1, rfl, i1, b1⟩
      have G1 := GR _ b1
      obtain ⟨c0, c1, c2⟩ := (hbox.below b1 hlb).cells
      have hsz1 := b1.size
      clear AT GR hbox
      go_wp2_with fail
      refine G1.mono ?_
      rintro e w2 ⟨rfl, b2⟩
      clear G1
      have b3 := hbx.trans ((b1.trans (b2.mono b1.size)).mono hbx.size)
      go_wp2
      go_ret2
      exact ⟨_, rfl, ⟨rfl, .inl ⟨rfl, rfl⟩⟩, b3⟩
    · rw [hro] at GR
      rw [if_pos rfl]
      have hne : es.length ≤ 1048576 := by have := (of_decide_eq_true (show decide _ = true from hro)).1; omega
      clear hro
      obtain ⟨wb, HWB⟩ : ∃ wb, Hid (wb = w.alloc (.cells #[.slice va es.length vc, .bool sh, .int .i64 lv] 33)) := ⟨_, rfl⟩
      have hwb := HWB.out
      rw [← hwb] at hbx hbox HE HT hlb AT GR
      clear hwb
      go_enter Tryz.func68, Tryz.ntmps68
      go_wp2_with fail
      rw [← HWB.out]
      refine AT.mono ?_
      rintro e w1 ⟨v1, rfl, i1, b1⟩
      have G1 := GR _ b1
      obtain ⟨c0, c1, c2⟩ := (hbox.below b1 hlb).cells
      have hsz1 := b1.size
      have hsw : w.heap.size < w1.heap.size := by omega
      clear AT GR HWB
      go_wp2_with fail
      refine G1.mono ?_
      rintro e w2 ⟨rfl, b2⟩
      have b12 := b1.trans (b2.mono b1.size)
      have ER := elemsRn_any b12 HE.out hne hr HT.out (i1.below b2) hlen hgood
      clear G1 c0 c1 c2
      obtain ⟨c0, c1, c2⟩ := (hbox.below b12 hlb).cells
      have hsz2 := b12.size
      have hsw2 : w.heap.size < w2.heap.size := by omega
      clear i1 b1 b2 b12
      go_wp2_with fail
      refine ER.mono ?_
      rintro e w3 ⟨v3, rfl, e3, b3⟩
      clear ER c0 c1 c2
      go_wp2
      go_ret2
      exact ⟨_, rfl, els_low e3 hbx.size, hbx.trans (b3.mono hbx.size)⟩
end Go.Proofs.YtanfebccenfffahGreatDoor

namespace Go.Proofs.YtanfebccenfffahGreatDoor
open Go.RowKit

theorem counted_nil (sh : Bool) : counted sh [] = [] := rfl
theorem fourths_nil (sh : Bool) : fourths sh [] = [] := rfl

/-- The block of counted elems. -/
def BoxC (u : World) (b : Nat) (v v' : Value) : Prop := u.heap[b]? = some (.cells #[v, v'] 93)
theorem BoxC.below {B b : Nat} {u u' : World} {v v' : Value} (h : BoxC u b v v') (hb : Below B u u') (hlt : b < B) : BoxC u' b v v' := (hb.block b hlt).trans h
theorem BoxC.cells {b : Nat} {u : World} {v v' : Value} (h : BoxC u b v v') : u.cell? ⟨b, 0, none⟩ = some v ∧ u.cell? ⟨b, 1, none⟩ = some v' ∧ ∀ j, u.frozen? ⟨b, j, none⟩ = false :=
  ⟨cell_of_row _ _ 0 _ _ _ h, cell_of_row _ _ 1 _ _ _ h, fun j => by unfold BoxC at h; simp [World.frozen?, h]⟩

theorem els_form {w : World} {B : Nat} {v : Value} {es : List El} (h : Elems w B v es) : ∃ a c, v = .slice a es.length c := by
  obtain ⟨a, c, h, _⟩ := els_slice h; exact ⟨a, c, h⟩
theorem ints_form {w : World} {B : Nat} {v : Value} {l : List Int} (h : Ints w B v l) : ∃ a c, v = .slice a l.length c := by
  obtain ⟨a, c, h, _⟩ := ints_slice h; exact ⟨a, c, h⟩

theorem els_set2 {w : World} {B b : Nat} {v x y : Value} {es : List El} (h : Elems w B v es) (hb : b < B) : Elems ((w.setCell ⟨b, 0, none⟩ x).setCell ⟨b, 1, none⟩ y) B v es :=
  World.ownsRow.kept (World.ownsRow.kept h (setCell_grown w b 0 x) (by
    cases e : v.ownBlock with
    | none => exact .inl rfl
    | some g => exact .inr fun c => by have := (World.ownsRow.lt h g e).1; cases c; omega)) (setCell_grown _ b 1 y) (by
    cases e : v.ownBlock with
    | none => exact .inl rfl
    | some g => exact .inr fun c => by have := (World.ownsRow.lt h g e).1; cases c; omega)
theorem ints_set2 {w : World} {B b : Nat} {v x y : Value} {l : List Int} (h : Ints w B v l) (hb : b < B) : Ints ((w.setCell ⟨b, 0, none⟩ x).setCell ⟨b, 1, none⟩ y) B v l :=
  World.ownsRow.kept (World.ownsRow.kept h (setCell_grown w b 0 x) (by
    cases e : v.ownBlock with
    | none => exact .inl rfl
    | some g => exact .inr fun c => by have := (World.ownsRow.lt h g e).1; cases c; omega)) (setCell_grown _ b 1 y) (by
    cases e : v.ownBlock with
    | none => exact .inl rfl
    | some g => exact .inr fun c => by have := (World.ownsRow.lt h g e).1; cases c; omega)
theorem below_set2 {w u : World} {b B : Nat} {x y : Value} (h : Below B w u) (hb : B ≤ b) : Below B w ((u.setCell ⟨b, 0, none⟩ x).setCell ⟨b, 1, none⟩ y) := (h.setCell hb _).setCell hb _

set_option maxRecDepth 100000 in
set_option maxHeartbeats 4000000 in
theorem count_any {w : World} {B : Nat} {ve : Value} {es : List Ent} {sh : Bool} {lv : Int} (x : ByteArray) (hx : x.size ≤ 1048576) (hE : Ents w B ve es) (hr : ∀ e ∈ es, e.runes.length ≤ 1048576) (ht : Tabs3 w) :
    Calls Tryz.prog 53 #[.agg #[ve, .bool sh, .int .i64 lv], .string x] w fun e w' => ∃ v v', e = .returned (.tuple #[.agg #[v, v'], .bool (okE es lv x)]) ∧ Elems w' w.heap.size v (counted sh (elsA es lv x)) ∧ Ints w' w.heap.size v' (fourths sh (elsA es lv x)) ∧ Below w.heap.size w w' := by
  obtain ⟨va, vc, rfl⟩ : ∃ a c, ve = .slice a es.length c := by
    rcases hE.form with ⟨rfl, rfl⟩ | ⟨_, _, rfl, _, _, _, _⟩
    · exact ⟨_, _, rfl⟩
    · exact ⟨_, _, rfl⟩
  have hb2 : Below w.heap.size w ((w.alloc (.cells #[.slice va es.length vc, .bool sh, .int .i64 lv] 33)).alloc (.cells #[.slice none 0 0, .slice none 0 0] 93)) := ((Below.refl _ _).alloc (Nat.le_refl _) _).alloc (by simp) _
  have hbox : BoxR4 ((w.alloc (.cells #[.slice va es.length vc, .bool sh, .int .i64 lv] 33)).alloc (.cells #[.slice none 0 0, .slice none 0 0] 93)) w.heap.size (.slice va es.length vc) sh lv := by
    unfold BoxR4
    rw [Below.heap_alloc _ _ _ (by simp)]; exact heap_alloc_new w _
  have hboc : BoxC ((w.alloc (.cells #[.slice va es.length vc, .bool sh, .int .i64 lv] 33)).alloc (.cells #[.slice none 0 0, .slice none 0 0] 93)) (w.heap.size + 1) (.slice none 0 0) (.slice none 0 0) := heap_alloc2_new w _ _
  have hsz : ((w.alloc (.cells #[.slice va es.length vc, .bool sh, .int .i64 lv] 33)).alloc (.cells #[.slice none 0 0, .slice none 0 0] 93)).heap.size = w.heap.size + 1 + 1 := by simp
  have EI := implElemsIn_any (sh := sh) (lv := lv) x hx (hE.below hb2) hr (ht.below hb2)
  have hlen := elsA_len es lv x
  have HSZ : Hid (_ = _) := hsz
  have HBX : Hid (BoxR4 _ _ _ _ _) := hbox
  have HBC : Hid (BoxC _ _ _ _) := hboc
  have HB2 : Hid (Below _ _ _) := hb2
  clear hE ht hr hx hsz hbox hboc hb2
  cases hok : okE es lv x
  · rw [hok] at EI
    have he0 : elsA es lv x = [] := by unfold elsA; rw [hok]; rfl
    rw [he0, counted_nil, fourths_nil]
    clear hok he0 hlen
    go_enter Tryz.func53, Tryz.ntmps53
    go_wp2_with fail
    refine EI.mono ?_
    rintro e w1 ⟨v1, rfl, i1, b1⟩
    have hc1 := HBC.out.below b1 (by rw [HSZ.out]; omega)
    obtain ⟨c0, c1, cf⟩ := hc1.cells
    have hl1 : w.heap.size + 1 < w1.heap.size := (Array.getElem?_eq_some_iff.1 hc1).1
    have HB1 : Hid (Below _ _ _) := HB2.out.trans (b1.mono HB2.out.size)
    clear EI i1 b1 hc1
    go_wp2
    refine bodyPost_ret (v := .tuple #[.agg #[.slice none 0 0, .slice none 0 0], .bool false]) ?_ rfl ⟨_, _, rfl, ⟨rfl, .inl ⟨rfl, rfl⟩⟩, ⟨rfl, .inl ⟨rfl, rfl⟩⟩, below_set2 HB1.out (by omega)⟩
    rw [results_cell_tmp rfl]
    go_simp
  · rw [hok] at EI
    clear hok
    generalize elsA es lv x = el at *
    go_enter Tryz.func53, Tryz.ntmps53
    go_wp2_with fail
    refine EI.mono ?_
    rintro e w1 ⟨v1, rfl, i1, b1⟩
    have hx1 := HBX.out.below b1 (by rw [HSZ.out]; omega)
    have hc1 := HBC.out.below b1 (by rw [HSZ.out]; omega)
    obtain ⟨p0, p1, p2⟩ := hx1.cells
    have hl1 : w.heap.size + 1 < w1.heap.size := (Array.getElem?_eq_some_iff.1 hc1).1
    have HB1 : Hid (Below _ _ _) := HB2.out.trans (b1.mono HB2.out.size)
    have FO := implFourth_ok sh (by omega) i1
    have HC1 : Hid (BoxC _ _ _ _) := hc1
    clear EI i1 b1 hc1 hx1
    go_wp2_with fail
    refine FO.mono ?_
    rintro e w2 ⟨v2, v3, rfl, i2, e2, b2⟩
    have hc2 := HC1.out.below b2 hl1
    obtain ⟨c0, c1, cf⟩ := hc2.cells
    have hl2 : w.heap.size + 1 < w2.heap.size := (Array.getElem?_eq_some_iff.1 hc2).1
    have HBB : Hid (Below _ _ _) := HB1.out.trans (b2.mono HB1.out.size)
    have HI2 : Hid (Ints _ _ _ _) := i2
    have HE2 : Hid (Elems _ _ _ _) := e2
    obtain ⟨a3, k3, rfl⟩ := els_form e2
    obtain ⟨a2, k2, rfl⟩ := ints_form i2
    clear FO p0 p1 p2 b2 hc2 i2 e2 HC1
    go_wp2
    refine bodyPost_ret (v := .tuple #[.agg #[.slice a3 (counted sh el).length k3, .slice a2 (fourths sh el).length k2], .bool true]) ?_ rfl ⟨_, _, rfl, els_low (els_set2 HE2.out hl1) (by omega), low_ints (ints_set2 HI2.out hl1) (by omega), below_set2 HBB.out (by omega)⟩
    rw [results_cell_tmp rfl]
    go_simp
end Go.Proofs.YtanfebccenfffahGreatDoor

namespace Go.Proofs.YtanfebccenfffahGreatDoor
open Go.RowKit

theorem info_u8 : (Tryz.prog.info? 5).map (fun i => (i.zero, i.size, i.bytes)) = some (some (.int .u8 0), 1, 1) := by kernel_rfl

def Bys (w : World) (base : Nat) (v : Value) (bs : List Int) : Prop := w.ownsRow base 5 1 v bs.length (bs.map (Value.int .u8))

theorem Bys.form {w : World} {B : Nat} {v : Value} {bs : List Int} (h : Bys w B v bs) : (v = .slice none 0 0 ∧ bs = []) ∨ ∃ g cap, v = .slice (some ⟨g, 0, none⟩) bs.length cap := by
  rcases h.2 with ⟨a, b⟩ | ⟨g, cap, cur, a, _⟩
  · exact .inl ⟨a, by simpa using b⟩
  · exact .inr ⟨g, cap, a⟩

theorem Bys.below {w w' : World} {B : Nat} {v : Value} {bs : List Int} (h : Bys w B v bs) (hb : Below w.heap.size w w') : Bys w' B v bs :=
  World.ownsRow.kept h (row := none) ⟨hb.os, hb.tape, hb.output, hb.size, fun k hk _ => hb.block k hk⟩ (by cases h : v.ownBlock <;> simp)

theorem Bys.app2 {w : World} {B : Nat} {v : Value} {bs : List Int} {x y : Int} (h : w.ownsRow B 5 1 v (bs.length + 2) (bs.map (Value.int .u8) ++ [.int .u8 x, .int .u8 y])) : Bys w B v (bs ++ [x, y]) := by
  unfold Bys; simpa using h

theorem cells2_at (w : World) (n : Nat) (x y : Value) (t : TypeId) (hn : n = w.heap.size) : ∀ j u, [x, y][j]? = some u → (w.alloc (.cells #[x, y] t)).cell? ((⟨n, 0, none⟩ : Addr).add j) = some u := by
  subst hn
  intro j u hj
  match j, hj with
  | 0, hj => simp at hj; subst hj; simp [Addr.add]
  | 1, hj => simp at hj; subst hj; simp [Addr.add]
  | j + 2, hj => simp at hj

theorem foldl_pushB : ∀ (xs : List Int) (r : ByteArray), xs.foldl (fun r n => r.push (UInt8.ofNat n.toNat)) r = ⟨r.data ++ (xs.map fun x => x.toNat.toUInt8).toArray⟩
  | [], r => by simp
  | x :: xs, r => by
    simp only [List.map_cons, List.foldl_cons]
    rw [foldl_pushB xs]
    simp [ByteArray.push]

theorem addr_zero (b j : Nat) : (⟨b, 0, none⟩ : Addr).add j = ⟨b, j, none⟩ := by
  unfold Addr.add
  split
  · rename_i h; subst h; rfl
  · simp

theorem conv_bys {w : World} {B : Nat} {v : Value} {bs : List Int} (h : Bys w B v bs) : (convert 76 9 v).run Tryz.prog w = .ok (.string (bytesOf bs)) w := by
  rcases h.form with ⟨rfl, rfl⟩ | ⟨g, cap, rfl⟩
  · rw [run_convert_bytes_string _ _ _ _ _ _ _ Tryz.underlying76 Tryz.underlying5 Tryz.underlying9]
    rfl
  · rw [run_convert_bytes_string _ _ _ _ _ _ _ Tryz.underlying76 Tryz.underlying5 Tryz.underlying9]
    have hl := run_loadCells_list (P := Tryz.prog) w ⟨g, 0, none⟩ (bs.map (Value.int .u8)) (fun j v hj => by
      have hjl : j < bs.length := by have := (List.getElem?_eq_some_iff.1 hj).1; simpa using this
      rw [addr_zero, World.ownsRow.cellAt h j (by omega), hj])
    simp only [List.length_map] at hl
    rw [run_bytesToString _ _ _ _ bs hl, foldl_pushB]
    have he0 : ByteArray.empty.data = #[] := rfl
    rw [he0]
    simp [bytesOf]
end Go.Proofs.YtanfebccenfffahGreatDoor

namespace Go.Proofs.YtanfebccenfffahGreatDoor
open Go.RowKit

theorem weightsL_any {w : World} {B B' : Nat} {ve vf : Value} {xs : List El} {fs : List Int} (lv : Nat) (h1 : 1 ≤ lv) (h4 : lv ≤ 4) (hE : Elems w B ve xs) (hI : Ints w B' vf fs) (hl : fs.length = xs.length) (hn : xs.length ≤ 1048576) :
    Calls Tryz.prog 54 #[.agg #[ve, vf], .int .i64 lv] w fun e w' => ∃ v, e = .returned v ∧ Ints w' w.heap.size v (wts lv xs fs) ∧ Below w.heap.size w w' := by
  obtain rfl | rfl | rfl | rfl : lv = 1 ∨ lv = 2 ∨ lv = 3 ∨ lv = 4 := by omega
  · exact weights1_any hE hI hl hn
  · exact weights2_any hE hI hl hn
  · exact weights3_any hE hI hl hn
  · exact weights4_any hE hI hl hn

def KoRel (W : World) (xs : List El) (fs : List Int) (n : Nat) (v8 v9 : Value) (wr : World) : Prop :=
  ∃ l : Nat, l ≤ n ∧ v9 = .int .i64 ((l : Int) + 1) ∧ Bys wr W.heap.size v8 (keyN xs fs l) ∧ Below W.heap.size W wr

def KiRel (W : World) (B : Nat) (v33 : Value) (pre ws : List Int) (v8 i : Value) (wr : World) : Prop :=
  ∃ k : Nat, k ≤ ws.length ∧ i = .int .i64 k ∧ Bys wr W.heap.size v8 (pre ++ bysOf (ws.take k)) ∧ Ints wr B v33 ws ∧ Below W.heap.size W wr

theorem take_bys {ws : List Int} {k : Nat} {x : Int} (h : ws[k]? = some x) (pre : List Int) : pre ++ bysOf (ws.take (k + 1)) = (pre ++ bysOf (ws.take k)) ++ [x / 256, x % 256] := by
  rw [List.take_add_one, h, bysOf_app, List.append_assoc]
  simp [bysOf_one]

theorem wts_rng {lv : Nat} {es : List El} {sh : Bool} (h : ∀ e ∈ es, rngE e) : ∀ n ∈ wts lv (counted sh es) (fourths sh es), 1 ≤ n ∧ n ≤ 65535 :=
  wtsK_rng (fourS_rng h _).2 (fourS_rng h _).1 _

theorem keyT_ok {es : List Ent} {sh : Bool} {lv : Int} {x : ByteArray} (h : okE es lv x = true) : keyT es sh lv x = bytesOf (keyN (counted sh (elsA es lv x)) (fourths sh (elsA es lv x)) lv.toNat) := by
  unfold keyT elsA
  rw [if_pos h, if_pos h]; rfl

theorem elsA_rng {es : List Ent} {lv : Int} {x : ByteArray} : ∀ e ∈ elsA es lv x, rngE e := by
  unfold elsA
  split
  · rename_i h
    exact elems4_rng (okE_parts h).2.2 (rn4_rng x)
  · intro e he; cases he

theorem ret_key {a b : ByteArray} {c : Bool} (h : a = b) : Ending.returned (.tuple #[.string a, .bool c]) = .returned (.tuple #[.string b, .bool c]) := by rw [h]

set_option maxRecDepth 100000 in
set_option maxHeartbeats 4000000 in
theorem implKey_any {w : World} {B : Nat} {ve : Value} {es : List Ent} {sh : Bool} {lv : Int} (x : ByteArray) (hx : x.size ≤ 1048576) (hE : Ents w B ve es) (hr : ∀ e ∈ es, e.runes.length ≤ 1048576) (ht : Tabs3 w) :
    Calls Tryz.prog 33 #[.agg #[ve, .bool sh, .int .i64 lv], .string x] w fun e w' => e = .returned (.tuple #[.string (keyT es sh lv x), .bool (okE es lv x)]) ∧ Below w.heap.size w w' := by
  obtain ⟨va, vc, rfl⟩ : ∃ a c, ve = .slice a es.length c := by
    rcases hE.form with ⟨rfl, rfl⟩ | ⟨_, _, rfl, _, _, _, _⟩
    · exact ⟨_, _, rfl⟩
    · exact ⟨_, _, rfl⟩
  obtain ⟨i0, hi0, hz0, hs0, hy0⟩ := info_parts info_u8
  have hbx : Below w.heap.size w (w.alloc (.cells #[.slice va es.length vc, .bool sh, .int .i64 lv] 33)) := (Below.refl _ _).alloc (Nat.le_refl _) _
  have hbox : BoxR4 (w.alloc (.cells #[.slice va es.length vc, .bool sh, .int .i64 lv] 33)) w.heap.size (.slice va es.length vc) sh lv := heap_alloc_new w _
  have C := count_any (sh := sh) (lv := lv) x hx (hE.below hbx) hr (ht.below hbx)
  have hlen := elsA_len es lv x
  have hcl := counted_len sh (elsA es lv x)
  have hfl := fourths_len sh (elsA es lv x)
  have hfc : (fourths sh (elsA es lv x)).length = (counted sh (elsA es lv x)).length := by omega
  have hcn : (counted sh (elsA es lv x)).length ≤ 400 := by omega
  have HBX : Hid (Below _ _ _) := hbx
  have HBO : Hid (BoxR4 _ _ _ _ _) := hbox
  have HFC : Hid (_ = _) := hfc
  clear hE ht hr hx hlen hcl hfl hfc hbx hbox
  cases hok : okE es lv x
  · rw [hok] at C
    have hk0 : keyT es sh lv x = ⟨#[]⟩ := by unfold keyT; rw [hok]; rfl
    rw [hk0]
    clear hok hk0 HFC hcn HBO
    go_enter Tryz.func33, Tryz.ntmps33
    go_wp2_with fail
    refine C.mono ?_
    rintro e w1 ⟨v1, v2, rfl, e1, i1, b1⟩
    obtain ⟨a1, k1, rfl⟩ := els_form e1
    obtain ⟨a2, k2, rfl⟩ := ints_form i1
    have HB1 : Hid (Below _ _ _) := HBX.out.trans (b1.mono HBX.out.size)
    clear C i1 e1 b1
    go_wp2
    go_ret2
    exact ⟨rfl, HB1.out.alloc HB1.out.size _⟩
  · rw [hok] at C
    obtain ⟨_, hl1, hl4⟩ := rulesOk_parts (okE_parts hok).2.2
    obtain ⟨n, rfl⟩ : ∃ n : Nat, lv = (n : Int) := ⟨lv.toNat, by omega⟩
    rw [keyT_ok hok, Int.toNat_natCast]
    have hrg := fun l => wts_rng (lv := l) (sh := sh) (elsA_rng (es := es) (lv := (n : Int)) (x := x))
    have HRG : Hid (∀ l, ∀ m ∈ wts l (counted sh (elsA es n x)) (fourths sh (elsA es n x)), 1 ≤ m ∧ m ≤ 65535) := hrg
    have hwl := fun l => wtsK_len l (counted sh (elsA es n x)) (fourths sh (elsA es n x)) (counted sh (elsA es n x)).length
    have hkl := fun l => keyN_len (counted sh (elsA es n x)) (fourths sh (elsA es n x)) l
    clear hok hrg
    generalize counted sh (elsA es n x) = xs at *
    generalize fourths sh (elsA es n x) = fs at *
    have HWL : Hid (∀ l, (wts l xs fs).length ≤ 400) := fun l => Nat.le_trans (hwl l) hcn
    have HKL : Hid (∀ l, l ≤ 4 → (keyN xs fs l).length ≤ 3208) := fun l hl => Nat.le_trans (hkl l) (Nat.le_trans (Nat.mul_le_mul hl (show 2 + 2 * xs.length ≤ 802 by omega)) (by omega))
    clear hwl hkl
    obtain ⟨W0, HW0⟩ : ∃ W0, Hid (W0 = w.alloc (.cells #[.slice va es.length vc, .bool sh, .int .i64 n] 33)) := ⟨_, rfl⟩
    have hw0s : w.heap.size < W0.heap.size := by rw [HW0.out]; simp
    rw [← HW0.out] at HBX HBO C
    go_enter Tryz.func33, Tryz.ntmps33
    go_wp2_with fail
    rw [← HW0.out]
    refine C.mono ?_
    rintro e w1 ⟨v1, v2, rfl, e1, i1, b1⟩
    obtain ⟨a1, k1, rfl⟩ := els_form e1
    obtain ⟨a2, k2, rfl⟩ := ints_form i1
    have hb2 : Below w1.heap.size w1 (w1.alloc (.cells #[.slice a1 xs.length k1, .slice a2 fs.length k2] 93)) := (Below.refl _ _).alloc (Nat.le_refl _) _
    have HE2 : Hid (Elems _ _ _ _) := e1.below hb2
    have HI2 : Hid (Ints _ _ _ _) := i1.below hb2
    have HBC : Hid (BoxC (w1.alloc (.cells #[.slice a1 xs.length k1, .slice a2 fs.length k2] 93)) w1.heap.size (.slice a1 xs.length k1) (.slice a2 fs.length k2)) := heap_alloc_new w1 _
    have HBR : Hid (BoxR4 (w1.alloc (.cells #[.slice a1 xs.length k1, .slice a2 fs.length k2] 93)) w.heap.size (.slice va es.length vc) sh n) := (HBO.out.below b1 hw0s).below hb2 (by have := b1.size; omega)
    have HB2 : Hid (Below w.heap.size w (w1.alloc (.cells #[.slice a1 xs.length k1, .slice a2 fs.length k2] 93))) := (HBX.out.trans (b1.mono HBX.out.size)).trans (hb2.mono (HBX.out.trans (b1.mono HBX.out.size)).size)
    have hws : w.heap.size < w1.heap.size := by have := b1.size; omega
    clear C i1 e1 b1 hb2 HBO HBX HW0
    obtain ⟨W, HW⟩ : ∃ W, Hid (W = w1.alloc (.cells #[.slice a1 xs.length k1, .slice a2 fs.length k2] 93)) := ⟨_, rfl⟩
    have hWs : w1.heap.size < W.heap.size := by rw [HW.out]; simp
    rw [← HW.out] at HE2 HI2 HBC HBR HB2
    go_wp2_with fail
    rw [← HW.out]
    go_loopw [8, 9] (fun v8 v9 wr => KoRel W xs fs n v8 v9 wr) (fun _ v9 _ => n + 1 - (intOf v9).toNat)
    case atStart => exact ⟨0, by omega, rfl, World.ownsRow_nil _ _ _ _, Below.refl _ _⟩
    case round =>
      clear HW
      obtain ⟨l, hl, rfl, hK, hbw⟩ := hrel
      obtain ⟨c0, c1, c2⟩ := (HBR.out.below hbw (by omega)).cells
      have hbc := HBC.out.below hbw hWs
      obtain ⟨d0, d1, _⟩ := hbc.cells
      have hkl := HKL.out l (by omega)
      have hsz := hbw.size
      by_cases hlt : l < n
      · have hlt8 : (l : Int) + 1 ≤ (n : Int) := by omega
        have HK : Hid (Bys _ _ _ _) := hK
        have HBW : Hid (Below _ _ _) := hbw
        clear hK hbw
        go_upto_if 27 with fail
        go_cut [8] from 20 to 47 (fun v8 wx => Bys wx W.heap.size v8 (keyN xs fs l ++ sepB (l + 1)) ∧ Below W.heap.size W wx)
        case first =>
          by_cases h0 : l = 0
          · subst h0
            go_wp2
            go_meet
            case rel => exact ⟨by simpa [sepB] using HK.out, HBW.out⟩
          · have h08 : (1 : Int) < (l : Int) + 1 := by omega
            have hs : sepB (l + 1) = [0, 0] := by unfold sepB; rw [if_pos (by omega)]
            have HS : Hid _ := hs
            have hK := HK.out
            unfold Bys at hK
            clear hs
            go_wp2_with (at_builtin; refine wpList_append_own _ rfl _ _ 76 rfl W.heap.size 5 i0 (.int .u8 0) 1 1 Tryz.underlying76 hi0 hz0 hs0 hy0 rfl (by decide) _ _ _ rfl (hK.alloc _) ⟨wr.heap.size, 0, none⟩ 2 2 [.int .u8 0, .int .u8 0] rfl rfl (cells2_at _ _ _ _ _ (by simp)) (fun u hu => by simp at hu; subst hu; rfl) (by unfold maxLen; omega) (by omega) (by simp; omega) ?_)
            intro v4 w4 ho4 hg4 _
            have hI4 : Bys w4 W.heap.size v4 (keyN xs fs l ++ [0, 0]) := Bys.app2 ho4
            have hb4 : Below W.heap.size W w4 := Below.grown (HBW.out.alloc HBW.out.size _) hg4 (HBW.out.alloc HBW.out.size _).size (fun j hj => (World.ownsRow.lt hK j hj).1)
            have HI4 : Hid (Bys _ _ _ _) := hI4
            clear ho4 hg4 hK hI4
            go_wp2
            go_meet
            case rel => exact ⟨by rw [HS.out]; exact HI4.out, hb4⟩
        case rest =>
          obtain ⟨hK, hbw⟩ := hcut
          clear HK HBW c0 c1 c2 d0 d1 hbc
          obtain ⟨c0, c1, c2⟩ := (HBR.out.below hbw (by omega)).cells
          obtain ⟨d0, d1, _⟩ := (HBC.out.below hbw hWs).cells
          have hsz2 := hbw.size
          have hws2 : w1.heap.size < wc.heap.size := by omega
          have WT := weightsL_any (l + 1) (by omega) (by omega) (HE2.out.below hbw) (HI2.out.below hbw) HFC.out (by omega)
          have hwl := HWL.out (l + 1)
          have hpl : (keyN xs fs l ++ sepB (l + 1)).length ≤ 3210 := by
            have : (sepB (l + 1)).length ≤ 2 := by unfold sepB; split <;> simp
            rw [List.length_append]; omega
          have HPR : Hid (keyN xs fs (l + 1) = (keyN xs fs l ++ sepB (l + 1)) ++ bysOf (wts (l + 1) xs fs)) := by show _ = _; rw [keyN, List.append_assoc]
          have hrg := HRG.out (l + 1)
          have HK2 : Hid (Bys _ _ _ _) := hK
          have HBW2 : Hid (Below _ _ _) := hbw
          generalize keyN xs fs l ++ sepB (l + 1) = pre at *
          generalize wts (l + 1) xs fs = ws at *
          have HRW : Hid (∀ m ∈ ws, 1 ≤ m ∧ m ≤ 65535) := hrg
          clear hK hbw hrg
          rw [Int.natCast_add] at WT
          go_wp2_with fail
          refine WT.mono ?_
          rintro e w5 ⟨v5, rfl, i5, b5⟩
          obtain ⟨a5, k5, rfl⟩ := ints_form i5
          have HK5 : Hid (Bys _ _ _ _) := HK2.out.below b5
          have HB5 : Hid (Below _ _ _) := HBW2.out.trans (b5.mono HBW2.out.size)
          have HI5 : Hid (Ints _ _ _ _) := i5
          clear WT i5 b5 HK2 HBW2 c0 c1 c2 d0 d1
          go_wp2_with fail
          go_loopw [8, 35] (fun v8 i wr => KiRel W wc.heap.size (.slice a5 ws.length k5) pre ws v8 i wr) (fun _ i _ => ws.length - (intOf i).toNat)
          case atStart => exact ⟨0, Nat.zero_le _, rfl, by rw [List.take_zero, bysOf_nil, List.append_nil]; exact HK5.out, HI5.out, HB5.out⟩
          case round =>
            clear HK5 HI5 HB5
            obtain ⟨k, hk, rfl, hK, hI, hbw⟩ := hrel
            by_cases hlk : k < ws.length
            · obtain ⟨y, hy⟩ : ∃ y, ws[k]? = some y := ⟨_, List.getElem?_eq_getElem hlk⟩
              have hyr := HRW.out y (List.mem_of_getElem? hy)
              have HT : Hid _ := take_bys hy pre
              obtain ⟨g5, rfl, c5⟩ : ∃ g5, a5 = some ⟨g5, 0, none⟩ ∧ wr.cell? ⟨g5, k, none⟩ = some (.int .i64 y) := by
                rcases hI.form with ⟨_, h2⟩ | ⟨g, cap, h, _, _⟩
                · subst h2; simp at hlk
                · injection h with h1 _ h3
                  subst h1
                  subst h3
                  refine ⟨g, rfl, ?_⟩
                  have := hI.cell k hlk
                  rw [hy] at this
                  exact this
              have hk8 : (k : Int) < (ws.length : Int) := by omega
              obtain ⟨hy1, hy2⟩ := hyr
              have hbl : (pre ++ bysOf (ws.take k)).length ≤ 4100 := by rw [List.length_append, bysOf_len, List.length_take]; omega
              have hsz3 := hbw.size
              have HI : Hid (Ints _ _ _ _) := hI
              obtain ⟨cur, HCUR⟩ : ∃ cur, Hid (pre ++ bysOf (ws.take k) = cur) := ⟨_, rfl⟩
              rw [HCUR.out] at hK HT hbl
              unfold Bys at hK
              clear hy hI
              go_wp2_with (at_builtin; refine wpList_append_own _ rfl _ _ 76 rfl W.heap.size 5 i0 (.int .u8 0) 1 1 Tryz.underlying76 hi0 hz0 hs0 hy0 rfl (by decide) _ _ _ rfl (hK.alloc _) ⟨wr.heap.size, 0, none⟩ 2 2 [.int .u8 (y / 256), .int .u8 (y % 256)] rfl rfl (cells2_at _ _ _ _ _ (by simp)) (fun u hu => by simp at hu; rcases hu with rfl | rfl <;> rfl) (by unfold maxLen; omega) (by omega) (by simp; omega) ?_)
              intro v6 w6 ho6 hg6 _
              have hI6 : Bys w6 W.heap.size v6 (cur ++ [y / 256, y % 256]) := Bys.app2 ho6
              have hb6 : Below W.heap.size W w6 := Below.grown (hbw.alloc hbw.size _) hg6 (hbw.alloc hbw.size _).size (fun j hj => (World.ownsRow.lt hK j hj).1)
              have HN6 : Hid (Ints w6 wc.heap.size (.slice (some ⟨g5, 0, none⟩) ws.length k5) ws) := World.ownsRow.kept (World.ownsRow.alloc HI.out _) hg6 (own_type HI.out hK (by decide))
              have HI6 : Hid (Bys _ _ _ _) := hI6
              clear ho6 hg6 hK hI6 HI c5 hbw
              go_wp2
              exact ⟨⟨k + 1, by omega, by go_num, by rw [HT.out]; exact HI6.out, HN6.out, hb6⟩, by simp [intOf]; omega⟩
            · have hkl : k = ws.length := by omega
              subst hkl
              have HK6 : Hid (Bys wr W.heap.size u8 (keyN xs fs (l + 1))) := by show Bys _ _ _ _; rw [HPR.out]; rw [List.take_length] at hK; exact hK
              clear hK hI
              go_wp2
              go_roundw
              case rel => exact ⟨l + 1, by omega, by go_num, HK6.out, hbw⟩
              case measure => simp [intOf]; omega
      · have hln : l = n := by omega
        subst hln
        have CV := conv_bys hK
        clear hK c0 c1 d0 d1 hbc
        go_wp2
        go_ret2
        exact ⟨rfl, HB2.out.trans (hbw.mono HB2.out.size)⟩
end Go.Proofs.YtanfebccenfffahGreatDoor
