/- Texts of mine laid together: IReadR, SRead. -/
import Derived.Test.YtakfnmhokijcoaaGreatDoorMN6
import Derived.Laws.ResultCell
import Derived.Deep.WholeRow
import Derived.Test.YtakfnmhokijcoaaGreatDoorRdBox
import Derived.Test.YtakfnmhokijcoaaGreatDoorMN5
namespace Go.Proofs.YtakfnmhokijcoaaGreatDoor
open Go.RowKit

set_option maxRecDepth 100000 in
set_option maxHeartbeats 1000000 in
theorem implPlain_any (w : World) : Calls Tryz.prog 24 #[] w fun e w' => e = .returned (.agg #[.slice none 0 0, .bool false, .int .i64 3]) ∧ Below w.heap.size w w' := by
  go_enter Tryz.func24, Tryz.ntmps24
  go_wp2
  refine bodyPost_ret (v := .agg #[.slice none 0 0, .bool false, .int .i64 3]) ?_ rfl ⟨rfl, (Below.refl _ _).alloc (Nat.le_refl _) _⟩
  exact results_cell_row rfl _ _ w.heap.size 32 _ (0, 0) _ rfl (heap_alloc_new _ _) Tryz.underlying32 rfl (by kernel_rfl)

/-- The answer's block, still zero. -/
def Zru (u : World) (b : Nat) : Prop := u.heap[b]? = some (.cells #[.slice none 0 0, .bool false, .int .i64 0] 32)
theorem Zru.facts {u : World} {b : Nat} (h : Zru u b) : b < u.heap.size ∧ (u.cell? ⟨b, 0, none⟩ = some (.slice none 0 0) ∧ u.cell? ⟨b, 1, none⟩ = some (.bool false) ∧ u.cell? ⟨b, 2, none⟩ = some (.int .i64 0)) ∧ ∀ j, u.frozen? ⟨b, j, none⟩ = false :=
  ⟨(Array.getElem?_eq_some_iff.1 h).1, ⟨cell_of_row _ _ 0 _ _ _ h, cell_of_row _ _ 1 _ _ _ h, cell_of_row _ _ 2 _ _ _ h⟩, fun j => by simp [World.frozen?, show u.heap[b]? = _ from h]⟩
theorem Zru.below {u u' : World} {b B : Nat} (h : Zru u b) (hb : Below B u u') (hB : b < B) : Zru u' b := (hb.block _ hB).trans h

theorem below_res3i {w wr : World} (h : Below w.heap.size w wr) (x y z : Value) : Below w.heap.size w (((wr.setCell ⟨w.heap.size, 0, none⟩ x).setCell ⟨w.heap.size, 1, none⟩ y).setCell ⟨w.heap.size, 2, none⟩ z) :=
  ((h.setCell (Nat.le_refl _) _).setCell (Nat.le_refl _) _).setCell (Nat.le_refl _) _

theorem res3_grown (u : World) (b : Nat) (x y z : Value) : u.grownBy (((u.setCell ⟨b, 0, none⟩ x).setCell ⟨b, 1, none⟩ y).setCell ⟨b, 2, none⟩ z) (some b) :=
  ((setCell_grown u b 0 _).trans (setCell_grown _ b 1 _)).trans (setCell_grown _ b 2 _)

theorem EntsD.low {u : World} {B B' T : Nat} {v : Value} {es : List Ent} (h : EntsD u B' T v es) (hB : B ≤ B') : EntsD u B T v es := by
  obtain ⟨xs, hl, h1, h2, h3, h4, h5⟩ := h
  refine ⟨xs, hl, ?_, fun k e he => ?_, h3, h4, h5⟩
  · obtain ⟨h6, h7⟩ := h1
    refine ⟨h6, ?_⟩
    rcases h7 with h7 | ⟨g, cap, cur, a, b, c⟩
    · exact .inl h7
    · exact .inr ⟨g, cap, cur, a, by omega, c⟩
  · obtain ⟨x, hx, hI⟩ := h2 k e he
    exact ⟨x, hx, ints_low2 hI hB⟩

set_option maxRecDepth 100000 in
set_option maxHeartbeats 8000000 in
theorem implRead_any (s : ByteArray) (u : World) (ht : Tabs3 u) (hs : s.size ≤ 1048576) :
    Calls Tryz.prog 10 #[.string s] u fun e w' => ∃ v, e = .returned (.tuple #[.agg #[v, .bool (readA s).sh, .int .i64 (readA s).lv], .int .i64 (readA s).code]) ∧ EntsD w' u.heap.size w'.heap.size v (readA s).es ∧ Below u.heap.size u w' := by
  have hz : Zru (u.alloc (.cells #[.slice none 0 0, .bool false, .int .i64 0] 32)) u.heap.size := heap_alloc_new _ _
  have hba := (Below.refl u.heap.size u).alloc (Nat.le_refl _) (.cells #[.slice none 0 0, .bool false, .int .i64 0] 32)
  by_cases h3 : 300 < s.size
  · have h3' : (300 : Int) < (s.size : Int) := by omega
    have HA : Hid (readA s = ⟨[], false, 0, 1⟩) := if_pos h3
    obtain ⟨hlt, ⟨q0, q1, q2⟩, f0⟩ := hz.facts
    clear hz ht h3
    go_enter Tryz.func10, Tryz.ntmps10
    go_wp2
    refine bodyPost_ret (v := .tuple #[.agg #[.slice none 0 0, .bool false, .int .i64 0], .int .i64 1]) ?_ rfl ⟨.slice none 0 0, by rw [HA.out], by rw [HA.out]; exact EntsD.nil _ _ _, hba⟩
    rw [results_cell_tmp rfl]
    go_simp
  · have h3' : ¬ (300 : Int) < (s.size : Int) := by omega
    have HA : Hid (readA s = raOf (readW (wf s.data.toList []) rs0)) := by show _ = _; unfold readA; rw [if_neg h3, words_wf]
    have hsl : s.data.toList.length ≤ 1048576 := by rw [Array.length_toList]; exact hs
    have P := fun w => implPlain_any w
    have HT : Hid (Tabs3 u) := ht
    have HZ : Hid (Zru _ _) := hz
    have HB : Hid (Below _ _ _) := hba
    clear ht hz hba h3
    go_enter Tryz.func10, Tryz.ntmps10
    go_wp2_with fail
    refine (P _).mono ?_
    rintro e u1 ⟨rfl, b1⟩
    have hz1 := HZ.out.below b1 (HZ.out.facts).1
    have c1 := HB.out.trans (b1.mono HB.out.size)
    have t1 := HT.out.below c1
    have hsz : u.heap.size < u1.heap.size := (hz1.facts).1
    have hal : Below u1.heap.size u1 (u1.alloc (.cells #[.string s, .slice none 0 0, .bool false, .int .i64 3, .int .i64 0, .int .i64 0, .int .i64 0, .bool false, .bool false] 55)) := (Below.refl u1.heap.size u1).alloc (Nat.le_refl _) _
    have hm : RdM u1 (u1.alloc (.cells #[.string s, .slice none 0 0, .bool false, .int .i64 3, .int .i64 0, .int .i64 0, .int .i64 0, .bool false, .bool false] 55)) u1.heap.size u1.heap.size s.data.toList rs0 (.slice none 0 0) := by
      refine ⟨?_, EntsD.nil _ _ _, hal.size, hal, t1.below hal, ⟨Nat.lt_of_lt_of_le HT.out.1.lt c1.size, Nat.lt_of_lt_of_le HT.out.2.1.lt c1.size, Nat.lt_of_lt_of_le HT.out.2.2.lt c1.size⟩⟩
      rw [heap_alloc_new u1]
      unfold rdC rs0
      have hse : (⟨s.data.toList.toArray⟩ : ByteArray) = s := by simp
      rw [hse]
    have RD := readI_any hm hsl rinv0
    have HZ1 : Hid (Zru _ _) := hz1
    have HC1 : Hid (Below _ _ _) := c1
    clear P HT HZ HB hz1 c1 t1 hal hm b1 hsl
    go_wp2_with fail
    refine RD.mono ?_
    rintro e u2 ⟨c, rfl, l2, ho⟩
    clear RD
    rcases ho with ⟨hR, hc, hbe⟩ | ⟨st, T, vE, hR, rfl, hm⟩
    · have HA2 : Hid (readA s = ⟨[], false, 0, c⟩) := HA.out.trans (by rw [hR]; rfl)
      have hc2 : (c != 0) = true := by simpa using hc
      obtain ⟨hlt, ⟨q0, q1, q2⟩, f0⟩ := (HZ1.out.below hbe hsz).facts
      have c2 := HC1.out.trans (hbe.mono HC1.out.size)
      clear HA hR hc hbe HZ1 HC1
      go_wp2
      refine bodyPost_ret (v := .tuple #[.agg #[.slice none 0 0, .bool false, .int .i64 0], .int .i64 c]) ?_ rfl ⟨.slice none 0 0, by rw [HA2.out], by rw [HA2.out]; exact EntsD.nil _ _ _, below_res3i c2 _ _ _⟩
      rw [results_cell_tmp rfl]
      go_simp
    · obtain ⟨ea, el, ec, rfl⟩ := hm.en.ents.slice
      have HA2 : Hid (readA s = ⟨st.es, st.sh, st.lv, 0⟩) := HA.out.trans (by rw [hR]; rfl)
      obtain ⟨hlt, ⟨q0, q1, q2⟩, f0⟩ := (HZ1.out.below hm.be hsz).facts
      obtain ⟨d0, d1, d2, d3, _, _, _, _, _, fz⟩ := hm.cells
      have hltb := hm.lt
      have c2 := HC1.out.trans (hm.be.mono HC1.out.size)
      have HEN : Hid (∀ x y z, EntsD (((u2.setCell ⟨u.heap.size, 0, none⟩ x).setCell ⟨u.heap.size, 1, none⟩ y).setCell ⟨u.heap.size, 2, none⟩ z) u.heap.size u2.heap.size (.slice ea el ec) st.es) := fun x y z => (((hm.en.up hm.tl).grown (res3_grown u2 u.heap.size x y z) (by omega)).low (by omega))
      clear HA hR HZ1 HC1 hm
      go_wp2
      refine bodyPost_ret (v := .tuple #[.agg #[.slice ea el ec, .bool st.sh, .int .i64 st.lv], .int .i64 0]) ?_ rfl ⟨.slice ea el ec, by rw [HA2.out], by rw [HA2.out]; exact (HEN.out _ _ _).up (by simp), below_res3i c2 _ _ _⟩
      rw [results_cell_tmp rfl]
      go_simp
end Go.Proofs.YtakfnmhokijcoaaGreatDoor

namespace Go.Proofs.YtakfnmhokijcoaaGreatDoor
open Go.RowKit

def RdRel (w : World) (ws : List ByteArray) (vw : Value) (br bl : Nat) (ans : Except Int RS) (rv iv : Value) (wr : World) : Prop :=
  ∃ (k : Nat) (st : RS) (vE : Value), k ≤ ws.length ∧ iv = .int .i64 k ∧ rv = .bool st.reset ∧ readW (ws.drop k) st = ans ∧ RInv st ∧ StM w wr ws vw br bl st vE

theorem bsize (w : World) (o : Obj) : (w.alloc o).heap.size = w.heap.size + 1 := by simp

def zeroRules (c : Int) : Value := .tuple #[.agg #[.slice none 0 0, .bool false, .int .i64 0], .int .i64 c]

theorem below_res3 {w wr : World} (h : Below w.heap.size w wr) (x y z : Value) : Below w.heap.size w (((wr.setCell ⟨w.heap.size, 0, none⟩ x).setCell ⟨w.heap.size, 1, none⟩ y).setCell ⟨w.heap.size, 2, none⟩ z) :=
  ((h.setCell (Nat.le_refl _) _).setCell (Nat.le_refl _) _).setCell (Nat.le_refl _) _

/-- What the contract says of an ending. -/
def RdPost (w : World) (a : RA) (e : Ending) (w' : World) : Prop :=
  ∃ vE, e = .returned (.tuple #[.agg #[vE, .bool a.sh, .int .i64 a.lv], .int .i64 a.code]) ∧ Ents w' w.heap.size vE a.es ∧ Below w.heap.size w w'

theorem rdPost_err {w wr : World} {ans : Except Int RS} {c : Int} (h : ans = .error c) (hb : Below w.heap.size w wr) : RdPost w (raOf ans) (.returned (zeroRules c)) wr := by
  subst h
  exact ⟨_, rfl, Ents.nil _ _, hb⟩

set_option maxRecDepth 100000 in
set_option maxHeartbeats 1000000 in
theorem read_long (s : ByteArray) (w : World) (h : 300 < s.size) (hs : s.size ≤ 1073741824) : Calls Tryz.prog 9 #[.string s] w fun e w' => RdPost w (readA s) e w' := by
  have h2 : (300 : Int) < (s.size : Int) := by omega
  have hA : readA s = ⟨[], false, 0, 1⟩ := if_pos h
  rw [hA]
  go_enter Tryz.func9, Tryz.ntmps9
  go_wp2
  refine bodyPost_ret (v := zeroRules 1) ?_ rfl ⟨_, rfl, Ents.nil _ _, (Below.refl _ _).alloc (Nat.le_refl _) _⟩
  rw [results_cell_tmp rfl]
  unfold zeroRules
  go_simp

set_option maxRecDepth 100000 in
set_option maxHeartbeats 1000000 in
theorem plain_any (w : World) : Calls Tryz.prog 16 #[] w fun e w' => e = .returned (.agg #[.slice none 0 0, .bool false, .int .i64 3]) ∧ Below w.heap.size w w' := by
  go_enter Tryz.func16, Tryz.ntmps16
  go_wp2
  refine bodyPost_ret (v := .agg #[.slice none 0 0, .bool false, .int .i64 3]) ?_ rfl ⟨rfl, (Below.refl _ _).alloc (Nat.le_refl _) _⟩
  rw [results_cell1 rfl]
  go_simp

theorem rb_of {u : World} {b2 br bl : Nat} {vE : Value} {sh : Bool} {lv : Int} {e : El} (hl : b2 < br ∧ br < bl) (h2 : u.heap[b2]? = some (.cells #[.slice none 0 0, .bool false, .int .i64 0] 32))
    (hr : u.heap[br]? = some (.cells #[vE, .bool sh, .int .i64 lv] 32)) (hll : u.heap[bl]? = some (.cells #[.int .i64 e.first, .int .i64 e.second, .int .i64 e.third, .bool e.varies] 41)) : RB u b2 br bl vE sh lv e :=
  ⟨⟨hl.1, hl.2, (Array.getElem?_eq_some_iff.1 hll).1⟩, ⟨cell_of_row _ _ 0 _ _ _ h2, cell_of_row _ _ 1 _ _ _ h2, cell_of_row _ _ 2 _ _ _ h2⟩, ⟨cell_of_row _ _ 0 _ _ _ hr, cell_of_row _ _ 1 _ _ _ hr, cell_of_row _ _ 2 _ _ _ hr⟩,
    ⟨cell_of_row _ _ 0 _ _ _ hll, cell_of_row _ _ 1 _ _ _ hll, cell_of_row _ _ 2 _ _ _ hll, cell_of_row _ _ 3 _ _ _ hll⟩, fun j => by simp [World.frozen?, h2], fun j => by simp [World.frozen?, hr], fun j => by simp [World.frozen?, hll]⟩

theorem rb_new {w2 : World} {b2 : Nat} (h : w2.heap[b2]? = some (.cells #[.slice none 0 0, .bool false, .int .i64 0] 32)) :
    RB ((w2.alloc (.cells #[.slice none 0 0, .bool false, .int .i64 3] 32)).alloc (.cells #[.int .i64 0, .int .i64 0, .int .i64 0, .bool false] 41)) b2 w2.heap.size (w2.heap.size + 1) (.slice none 0 0) false 3 ⟨0, 0, 0, false⟩ := by
  have hb := ((Below.refl w2.heap.size w2).alloc (Nat.le_refl _) (.cells #[.slice none 0 0, .bool false, .int .i64 3] 32)).alloc (by simp) (.cells #[.int .i64 0, .int .i64 0, .int .i64 0, .bool false] 41)
  have hlt := (Array.getElem?_eq_some_iff.1 h).1
  refine rb_of ⟨hlt, Nat.lt_succ_self _⟩ ?_ ?_ (heap_alloc2_new w2 _ _)
  · rw [hb.block _ hlt]; exact h
  · rw [Below.heap_alloc _ _ _ (by simp)]; exact heap_alloc_new w2 _

theorem readW_nil (st : RS) : readW [] st = .ok st := by unfold readW; rfl

theorem drop_at {ws : List ByteArray} {k : Nat} {x : ByteArray} (h : ws[k]? = some x) : ws.drop k = x :: ws.drop (k + 1) := by
  obtain ⟨hk, rfl⟩ := List.getElem?_eq_some_iff.1 h
  exact List.drop_eq_getElem_cons hk

theorem readW_shift {x : ByteArray} {ws : List ByteArray} {st : RS} (h : (x.toList == wShift) = true) : readW (x :: ws) st = readW ws { st with sh := true } := by
  rw [readW.eq_def]
  simp only
  rw [if_pos h]

theorem readW_lev0 {x : ByteArray} {st : RS} (h1 : (x.toList == wShift) = false) (h2 : (x.toList == wLevels) = true) : readW [x] st = .error 2 := by
  rw [readW.eq_def]
  simp only
  rw [if_neg (by simp [h1]), if_pos h2]

theorem readW_levn {x y : ByteArray} {ws : List ByteArray} {st : RS} (h1 : (x.toList == wShift) = false) (h2 : (x.toList == wLevels) = true) (h3 : levN y = none) : readW (x :: y :: ws) st = .error 2 := by
  rw [readW.eq_def]
  simp only
  rw [if_neg (by simp [h1]), if_pos h2, h3]

theorem readW_levs {x y : ByteArray} {ws : List ByteArray} {st : RS} {n : Int} (h1 : (x.toList == wShift) = false) (h2 : (x.toList == wLevels) = true) (h3 : levN y = some n) : readW (x :: y :: ws) st = readW ws { st with lv := n } := by
  rw [readW.eq_def]
  simp only
  rw [if_neg (by simp [h1]), if_pos h2, h3]

theorem readW_none {x : ByteArray} {ws : List ByteArray} {st : RS} (h1 : (x.toList == wShift) = false) (h2 : (x.toList == wLevels) = false) (h3 : levOf x = none) : readW (x :: ws) st = .error 2 := by
  rw [readW.eq_def]
  simp only
  rw [if_neg (by simp [h1]), if_neg (by simp [h2]), h3]

theorem readW_one0 {x : ByteArray} {st : RS} {lev : Nat} (h1 : (x.toList == wShift) = false) (h2 : (x.toList == wLevels) = false) (h3 : levOf x = some lev) : readW [x] st = .error 2 := by
  rw [readW.eq_def]
  simp only
  rw [if_neg (by simp [h1]), if_neg (by simp [h2]), h3]

theorem readW_onel {x y : ByteArray} {ws : List ByteArray} {st : RS} {lev : Nat} (h1 : (x.toList == wShift) = false) (h2 : (x.toList == wLevels) = false) (h3 : levOf x = some lev) (h4 : 200 < y.size) : readW (x :: y :: ws) st = .error 2 := by
  rw [readW.eq_def]
  simp only
  rw [if_neg (by simp [h1]), if_neg (by simp [h2]), h3]
  simp only
  rw [if_pos h4]

theorem readW_onee {x y : ByteArray} {ws : List ByteArray} {st : RS} {lev : Nat} {c : Int} (h1 : (x.toList == wShift) = false) (h2 : (x.toList == wLevels) = false) (h3 : levOf x = some lev) (h4 : ¬ 200 < y.size) (h5 : putIn st lev (nD (Dec.decT y.size y).1) = .error c) : readW (x :: y :: ws) st = .error c := by
  rw [readW.eq_def]
  simp only
  rw [if_neg (by simp [h1]), if_neg (by simp [h2]), h3]
  simp only
  rw [if_neg h4, h5]

theorem readW_onek {x y : ByteArray} {ws : List ByteArray} {st st' : RS} {lev : Nat} (h1 : (x.toList == wShift) = false) (h2 : (x.toList == wLevels) = false) (h3 : levOf x = some lev) (h4 : ¬ 200 < y.size) (h5 : putIn st lev (nD (Dec.decT y.size y).1) = .ok st') : readW (x :: y :: ws) st = readW ws st' := by
  rw [readW.eq_def]
  simp only
  rw [if_neg (by simp [h1]), if_neg (by simp [h2]), h3]
  simp only
  rw [if_neg h4, h5]

theorem levOf_cases {x : ByteArray} {lev : Nat} (h : levOf x = some lev) : (lev = 0 ∧ (x.toList == [38]) = true) ∨ (lev = 1 ∧ (x.toList == [38]) = false ∧ (x.toList == [60]) = true) ∨ (lev = 2 ∧ (x.toList == [38]) = false ∧ (x.toList == [60]) = false ∧ (x.toList == [60, 60]) = true) ∨
    (lev = 3 ∧ (x.toList == [38]) = false ∧ (x.toList == [60]) = false ∧ (x.toList == [60, 60]) = false ∧ (x.toList == [60, 60, 60]) = true) := by
  unfold levOf at h
  cases d0 : (x.toList == [38]) <;> rw [d0] at h
  · cases d1 : (x.toList == [60]) <;> rw [d1] at h
    · cases d2 : (x.toList == [60, 60]) <;> rw [d2] at h
      · cases d3 : (x.toList == [60, 60, 60]) <;> rw [d3] at h
        · simp at h
        · simp at h; subst h; simp
      · simp at h; subst h; simp
    · simp at h; subst h; simp
  · simp at h; subst h; simp

theorem own_above {u : World} {B b : Nat} {v : Value} {l : List Int} (h : Ints u B v l) (hb : b + 1 ≤ B) : v.ownBlock = none ∨ v.ownBlock ≠ some b := by
  cases e : v.ownBlock with
  | none => exact .inl rfl
  | some g =>
    refine .inr fun c => ?_
    have := (World.ownsRow.lt h g e).1
    cases c
    omega

theorem drop_end {ws : List ByteArray} {k : Nat} (h : ws.length ≤ k) : ws.drop k = [] := List.drop_eq_nil_of_le h

theorem levN_yes {y : ByteArray} (h : y.size = 2 ∧ 49 ≤ Dec.bt y 0 ∧ Dec.bt y 0 ≤ 52 ∧ Dec.bt y 1 = 93) : levN y = some ((Dec.bt y 0 : Int) - 48) := if_pos h
theorem levN_no {y : ByteArray} (h : ¬ (y.size = 2 ∧ 49 ≤ Dec.bt y 0 ∧ Dec.bt y 0 ≤ 52 ∧ Dec.bt y 1 = 93)) : levN y = none := if_neg h

theorem putIn_bad {st : RS} {lev : Nat} {l : List Int} (h : runesOk l = false) : putIn st lev l = .error 2 := if_pos h
theorem putIn_reset0 {st : RS} {l : List Int} (h : runesOk l = true) (h2 : elemE st.es l = none) : putIn st 0 l = .error 3 := by
  unfold putIn
  rw [if_neg (by simp [h]), if_pos rfl, h2]
theorem putIn_resetv {st : RS} {l : List Int} {e : El} (h : runesOk l = true) (h2 : elemE st.es l = some e) (h3 : e.varies = true) : putIn st 0 l = .error 3 := by
  unfold putIn
  rw [if_neg (by simp [h]), if_pos rfl, h2]
  simp only
  rw [if_pos h3]
theorem putIn_resetk {st : RS} {l : List Int} {e : El} (h : runesOk l = true) (h2 : elemE st.es l = some e) (h3 : e.varies = false) : putIn st 0 l = .ok { st with last := e, reset := true } := by
  unfold putIn
  rw [if_neg (by simp [h]), if_pos rfl, h2]
  simp only
  rw [if_neg (by simp [h3])]
theorem putIn_first {st : RS} {lev : Nat} {l : List Int} (h : runesOk l = true) (hl : lev ≠ 0) (hr : st.reset = false) : putIn st lev l = .error 3 := by
  unfold putIn
  rw [if_neg (by simp [h]), if_neg hl, if_pos hr]
theorem putIn_twice {st : RS} {lev : Nat} {l : List Int} (h : runesOk l = true) (hl : lev ≠ 0) (hr : st.reset = true) (ha : 0 ≤ atE st.es l) : putIn st lev l = .error 4 := by
  unfold putIn
  rw [if_neg (by simp [h]), if_neg hl, if_neg (by simp [hr]), if_pos ha]
theorem putIn_put {st : RS} {lev : Nat} {l : List Int} (h : runesOk l = true) (hl : lev ≠ 0) (hr : st.reset = true) (ha : ¬ 0 ≤ atE st.es l) : putIn st lev l = if rulesOk (st.es ++ [⟨l, behindE st.es st.last lev⟩]) st.lv = true then .ok { st with es := st.es ++ [⟨l, behindE st.es st.last lev⟩], last := behindE st.es st.last lev } else .error 5 := by
  unfold putIn
  rw [if_neg (by simp [h]), if_neg hl, if_neg (by simp [hr]), if_neg ha]

set_option maxRecDepth 100000 in
set_option maxHeartbeats 20000000 in
theorem read_short (s : ByteArray) (w : World) (hs : s.size ≤ 300) : Calls Tryz.prog 9 #[.string s] w fun e w' => RdPost w (readA s) e w' := by
  have h2 : ¬ (300 : Int) < (s.size : Int) := by omega
  have hA : readA s = raOf (readW (words s) rs0) := if_neg (by omega)
  rw [hA]
  clear hA
  have W := fun w => words_any s w (by omega)
  have hwl : (words s).length ≤ 301 := Nat.le_trans (wst_bound s (s.size + 1)).1 (by omega)
  generalize words s = ws at *
  obtain ⟨ans, HANS⟩ : ∃ ans, Hid (readW ws rs0 = ans) := ⟨_, rfl⟩
  rw [HANS.out]
  go_enter Tryz.func9, Tryz.ntmps9
  go_wp2_with fail
  refine (W _).mono ?_
  rintro e w1 ⟨vw, rfl, hS1, b1⟩
  have bb1 := ((Below.refl w.heap.size w).alloc (Nat.le_refl _) (.cells #[.slice none 0 0, .bool false, .int .i64 0] 32)).trans (b1.mono (by simp))
  have P := fun w => plain_any w
  have hbb : Hid (Below _ _ _) := bb1
  have HS1 : Hid (Strs _ _ _ _) := hS1
  have h20 : Hid (w1.heap[w.heap.size]? = some (.cells #[.slice none 0 0, .bool false, .int .i64 0] 32)) := by
    show _ = _
    rw [b1.block _ (by simp)]; exact heap_alloc_new w _
  clear bb1 b1 hS1 W
  go_wp2_with fail
  refine (P _).mono ?_
  rintro e w2 ⟨rfl, b2⟩
  clear P
  have hlt2 := (Array.getElem?_eq_some_iff.1 h20.out).1
  have hM0 : StM w ((w2.alloc (.cells #[.slice none 0 0, .bool false, .int .i64 3] 32)).alloc (.cells #[.int .i64 0, .int .i64 0, .int .i64 0, .bool false] 41)) ws vw w2.heap.size (w2.heap.size + 1) rs0 (.slice none 0 0) := by
    have hb2 := hbb.out.trans (b2.mono hbb.out.size)
    have hSb := HS1.out.below b2
    rw [bsize] at hSb
    exact ⟨rb_new (by rw [b2.block _ hlt2]; exact h20.out), Ents.nil _ _, hSb.below (((Below.refl w2.heap.size w2).alloc (Nat.le_refl _) _).alloc (by simp) _), fun g e => (World.ownsRow.lt hSb g e).2, (hb2.alloc hb2.size _).alloc (hb2.alloc hb2.size _).size _⟩
  have HM0 : Hid (StM _ _ _ _ _ _ _ _) := hM0
  clear hbb b2 h20 hlt2 HS1 hM0
  obtain ⟨aw, cw, rfl⟩ : ∃ aw cw, vw = .slice aw ws.length cw := by
    rcases HM0.out.sr.form with ⟨rfl, rfl⟩ | ⟨g, cap, rfl, _, _⟩
    · exact ⟨_, _, rfl⟩
    · exact ⟨_, _, rfl⟩
  go_wp2_with fail
  go_loopw [7, 8] (fun rv iv wr => RdRel w ws (.slice aw ws.length cw) w2.heap.size (w2.heap.size + 1) ans rv iv wr) (fun _ iv _ => ws.length - (intOf iv).toNat)
  case atStart => exact ⟨0, rs0, _, Nat.zero_le _, rfl, rfl, by rw [List.drop_zero]; exact HANS.out, rinv0, HM0.out⟩
  case round =>
    clear HM0 HANS
    obtain ⟨k, st, vE, hk, rfl, rfl, hR, hI, hM⟩ := hrel
    have HR : Hid (readW (ws.drop k) st = ans) := hR
    have HI : Hid (RInv st) := hI
    have HM : Hid (StM w wr ws _ _ _ st vE) := hM
    clear hR hI hM
    obtain ⟨ae, ce, rfl⟩ : ∃ a c, vE = .slice a st.es.length c := by
      rcases HM.out.en.form with ⟨h, h'⟩ | ⟨g, cap, rfl, _, _, _, _⟩
      · exact ⟨none, 0, by rw [h, h']; rfl⟩
      · exact ⟨_, _, rfl⟩
    have hbe := HM.out.be
    obtain ⟨⟨l1, l2, l3⟩, ⟨q0, q1, q2⟩, ⟨r0, r1, r2⟩, _, f2, fr, _⟩ := HM.out.rb
    by_cases hlt : k < ws.length
    · obtain ⟨x, hx⟩ : ∃ x, ws[k]? = some x := ⟨_, List.getElem?_eq_getElem hlt⟩
      obtain ⟨gw, rfl⟩ : ∃ g, aw = some ⟨g, 0, none⟩ := by
        rcases HM.out.sr.form with ⟨_, rfl⟩ | ⟨g, cap, h, _, _⟩
        · simp at hlt
        · injection h with h _ _; exact ⟨g, h⟩
      have hcx := HM.out.sr.cell k x hx
      have hk8 : (k : Int) < (ws.length : Int) := by omega
      have hdr := drop_at hx
      have HDR : Hid (readW (x :: ws.drop (k + 1)) st = ans) := by show _ = _; rw [← hdr]; exact HR.out
      clear HR hdr hx
      cases c1 : (x.toList == wShift)
      · cases c2 : (x.toList == wLevels)
        · cases c3 : levOf x with
          | none =>
            have HERR : Hid (ans = .error 2) := by show _ = _; rw [← HDR.out, readW_none c1 c2 c3]
            unfold levOf at c3
            cases d0 : (x.toList == [38])
            · rw [d0] at c3
              cases d1 : (x.toList == [60])
              · rw [d1] at c3
                cases d2 : (x.toList == [60, 60])
                · rw [d2] at c3
                  cases d3 : (x.toList == [60, 60, 60])
                  · clear c3 HDR
                    unfold wShift at c1
                    unfold wLevels at c2
                    go_wp2
                    refine bodyPost_ret (v := zeroRules 2) ?_ rfl (rdPost_err HERR.out (below_res3 hbe _ _ _))
                    rw [results_cell_tmp rfl]
                    unfold zeroRules
                    go_simp
                  · rw [d3] at c3; simp at c3
                · rw [d2] at c3; simp at c3
              · rw [d1] at c3; simp at c3
            · rw [d0] at c3; simp at c3
          | some lev =>
            have C1 : Hid _ := c1
            have C2 : Hid _ := c2
            have C3 : Hid _ := c3
            have hcs := levOf_cases c3
            unfold wShift at c1
            unfold wLevels at c2
            clear c3
            by_cases hl2 : k + 1 < ws.length
            · obtain ⟨y, hy⟩ : ∃ y, ws[k + 1]? = some y := ⟨_, List.getElem?_eq_getElem hl2⟩
              have hcy := HM.out.sr.cell (k + 1) y hy
              have HDR2 : Hid (readW (x :: y :: ws.drop (k + 1 + 1)) st = ans) := by show _ = _; rw [← drop_at hy]; exact HDR.out
              have he : ((k : Int) + 1 == (ws.length : Int)) = false := by simp; omega
              have hk9 : (k : Int) + 1 < (ws.length : Int) := by omega
              clear hy HDR
              by_cases hyl : 200 < y.size
              · have HERR : Hid (ans = .error 2) := by show _ = _; rw [← HDR2.out, readW_onel C1.out C2.out C3.out hyl]
                have hyl2 : (200 : Int) < (y.size : Int) := by omega
                clear HDR2 HM C1 C2 C3
                rcases hcs with ⟨_, d0⟩ | ⟨_, d0, d1⟩ | ⟨_, d0, d1, d2⟩ | ⟨_, d0, d1, d2, d3⟩
                · go_wp2
                  refine bodyPost_ret (v := zeroRules 2) ?_ rfl (rdPost_err HERR.out (below_res3 hbe _ _ _))
                  rw [results_cell_tmp rfl]
                  unfold zeroRules
                  go_simp
                · go_wp2
                  refine bodyPost_ret (v := zeroRules 2) ?_ rfl (rdPost_err HERR.out (below_res3 hbe _ _ _))
                  rw [results_cell_tmp rfl]
                  unfold zeroRules
                  go_simp
                · go_wp2
                  refine bodyPost_ret (v := zeroRules 2) ?_ rfl (rdPost_err HERR.out (below_res3 hbe _ _ _))
                  rw [results_cell_tmp rfl]
                  unfold zeroRules
                  go_simp
                · go_wp2
                  refine bodyPost_ret (v := zeroRules 2) ?_ rfl (rdPost_err HERR.out (below_res3 hbe _ _ _))
                  rw [results_cell_tmp rfl]
                  unfold zeroRules
                  go_simp
              · have DEC := fun w => l1Decode_any y w (by omega)
                have hdl := (Dec.decT_len y.size y (Nat.le_refl _)).1
                have hyl2 : ¬ (200 : Int) < (y.size : Int) := by omega
                have hnl : (nD (Dec.decT y.size y).1).length ≤ 1800 := by rw [nD_len]; have := apD_len (Dec.decT y.size y).1; omega
                rcases hcs with ⟨rfl, d0⟩ | ⟨rfl, d0, d1⟩ | ⟨rfl, d0, d1, d2⟩ | ⟨rfl, d0, d1, d2, d3⟩
                · go_wp2_with fail
                  refine (DEC _).mono ?_
                  rintro e w3 ⟨v3, rfl, i3, b3⟩
                  have D := d_any (zs := (Dec.decT y.size y).1) (by omega) i3
                  have HM3 : Hid (StM _ _ _ _ _ _ _ _) := HM.out.step b3
                  have hw3 : Hid (w2.heap.size + 1 + 1 ≤ w3.heap.size) := by show _ ≤ _; have := b3.size; omega
                  clear DEC HM q0 q1 q2 r0 r1 r2 f2 fr hcx hcy hbe l1 l2 l3 b3 i3
                  go_wp2_with fail
                  refine D.mono ?_
                  rintro e w4 ⟨v4, rfl, i4, b4⟩
                  have HM4 : Hid (StM _ _ _ _ _ _ _ _) := HM3.out.step b4
                  have i4b := ints_low2 i4 hw3.out
                  clear D HM3 b4 hw3 i4
                  generalize hl4 : nD (Dec.decT y.size y).1 = l at *
                  have HL4 : Hid _ := hl4
                  clear hl4
                  obtain ⟨a4, c4, rfl⟩ : ∃ a c, v4 = .slice a l.length c := by
                    rcases i4b.form with ⟨rfl, rfl⟩ | ⟨g, cap, rfl, _, _⟩
                    · exact ⟨_, _, rfl⟩
                    · exact ⟨_, _, rfl⟩
                  have RN := runes3_any (by omega) i4b
                  go_wp2_with fail
                  refine RN.mono ?_
                  rintro e w5 ⟨rfl, b5⟩
                  have HM5 : Hid (StM _ _ _ _ _ _ _ _) := HM4.out.step b5
                  have I5 : Hid (Ints _ _ _ _) := i4b.below b5
                  clear RN HM4 b5 i4b
                  cases hro : runesOk l
                  · have HERR : Hid (ans = .error 2) := by show _ = _; rw [← HDR2.out, readW_onee C1.out C2.out C3.out hyl (by rw [HL4.out]; exact putIn_bad hro)]
                    have hbe := HM5.out.be
                    obtain ⟨⟨l1, l2, l3⟩, ⟨q0, q1, q2⟩, ⟨r0, r1, r2⟩, ⟨e0, e1, e2, e3⟩, f2, fr, fl⟩ := HM5.out.rb
                    have lb2 : w.heap.size < w5.heap.size := by omega
                    have lbr : w2.heap.size < w5.heap.size := by omega
                    clear HDR2 HM5 C1 C2 C3 I5 HL4
                    go_wp2
                    refine bodyPost_ret (v := zeroRules 2) ?_ rfl (rdPost_err HERR.out (below_res3 hbe _ _ _))
                    rw [results_cell_tmp rfl]
                    unfold zeroRules
                    go_simp
                  · have hll := runesOk_len hro
                    have hrl : ∀ e ∈ st.es, e.runes.length ≤ 1048576 := fun e he => Nat.le_trans (runesOk_len ((rulesOk_whole HI.out.good).2.2 e he).1) (by omega)
                    have hel : st.es.length ≤ 40 := (rulesOk_whole HI.out.good).1
                    have hgr := runesOk_good hro
                    have EL := elem3_any (sh := st.sh) (lv := st.lv) HM5.out.en I5.out (by omega) (by omega) hrl hgr
                    clear hgr hrl
                    have hbe := HM5.out.be
                    obtain ⟨⟨l1, l2, l3⟩, ⟨q0, q1, q2⟩, ⟨r0, r1, r2⟩, ⟨e0, e1, e2, e3⟩, f2, fr, fl⟩ := HM5.out.rb
                    have lb2 : w.heap.size < w5.heap.size := by omega
                    have lbr : w2.heap.size < w5.heap.size := by omega
                    cases hee : elemE st.es l with
                    | none =>
                      have HERR : Hid (ans = .error 3) := by show _ = _; rw [← HDR2.out, readW_onee C1.out C2.out C3.out hyl (by rw [HL4.out]; exact putIn_reset0 hro hee)]
                      rw [hee] at EL
                      unfold elRes elV elOf at EL
                      simp only [Option.getD_none, Option.isSome_none] at EL
                      clear HDR2 C1 C2 C3 I5 HL4 hee
                      go_wp2_with fail
                      refine EL.mono ?_
                      rintro e w6 ⟨rfl, b6⟩
                      have HM6 : Hid (StM _ _ _ _ _ _ _ _) := HM5.out.step b6
                      clear q0 q1 q2 r0 r1 r2 e0 e1 e2 e3 f2 fr fl hbe l1 l2 l3 lb2 lbr
                      have hbe := HM6.out.be
                      obtain ⟨⟨l1, l2, l3⟩, ⟨q0, q1, q2⟩, ⟨r0, r1, r2⟩, ⟨e0, e1, e2, e3⟩, f2, fr, fl⟩ := HM6.out.rb
                      have lb2 : w.heap.size < w6.heap.size := by omega
                      have lbr : w2.heap.size < w6.heap.size := by omega
                      clear EL HM5 HM6 b6
                      go_wp2
                      refine bodyPost_ret (v := zeroRules 3) ?_ rfl (rdPost_err HERR.out ((below_res3 hbe _ _ _).alloc (by simpa using hbe.size) _))
                      rw [results_cell_tmp rfl]
                      unfold zeroRules
                      go_simp
                    | some x0 =>
                      rw [hee] at EL
                      unfold elRes elV elOf at EL
                      cases hv : x0.varies
                      · have HOK : Hid (readW (ws.drop (k + 1 + 1)) { st with last := x0, reset := true } = ans) := by show _ = _; rw [← HDR2.out, readW_onek C1.out C2.out C3.out hyl (by rw [HL4.out]; exact putIn_resetk hro hee hv)]
                        have HI2 : Hid (RInv { st with last := x0, reset := true }) := putIn_inv HI.out (putIn_resetk hro hee hv)
                        have HV : Hid (x0.varies = false) := hv
                        simp only [Option.getD_some, Option.isSome_some, hv] at EL
                        clear HDR2 C1 C2 C3 I5 HL4 hee hv
                        go_wp2_with fail
                        refine EL.mono ?_
                        rintro e w6 ⟨rfl, b6⟩
                        have HM6 : Hid (StM _ _ _ _ _ _ _ _) := HM5.out.step b6
                        clear q0 q1 q2 r0 r1 r2 e0 e1 e2 e3 f2 fr fl hbe l1 l2 l3 lb2 lbr
                        have HM7 : Hid (StM _ _ _ _ _ _ _ _) := (HM6.out.setLast x0 true).step ((Below.refl _ _).alloc (Nat.le_refl _) (.cells #[.int .i64 x0.first, .int .i64 x0.second, .int .i64 x0.third, .bool x0.varies] 41))
                        rw [HV.out] at HM7
                        unfold setEl at HM7
                        rw [HV.out] at HM7
                        have hbe := HM6.out.be
                        obtain ⟨⟨l1, l2, l3⟩, ⟨q0, q1, q2⟩, ⟨r0, r1, r2⟩, ⟨e0, e1, e2, e3⟩, f2, fr, fl⟩ := HM6.out.rb
                        have lb2 : w.heap.size < w6.heap.size := by omega
                        have lbr : w2.heap.size < w6.heap.size := by omega
                        clear EL HM5 HM6 b6 hbe
                        go_wp2
                        exact ⟨⟨k + 1 + 1, { st with last := x0, reset := true }, _, hl2, by go_num, rfl, HOK.out, HI2.out, HM7.out⟩, by simp [intOf]; omega⟩
                      · have HERR : Hid (ans = .error 3) := by show _ = _; rw [← HDR2.out, readW_onee C1.out C2.out C3.out hyl (by rw [HL4.out]; exact putIn_resetv hro hee hv)]
                        simp only [Option.getD_some, Option.isSome_some, hv] at EL
                        clear HDR2 C1 C2 C3 I5 HL4 hee hv
                        go_wp2_with fail
                        refine EL.mono ?_
                        rintro e w6 ⟨rfl, b6⟩
                        have HM6 : Hid (StM _ _ _ _ _ _ _ _) := HM5.out.step b6
                        clear q0 q1 q2 r0 r1 r2 e0 e1 e2 e3 f2 fr fl hbe l1 l2 l3 lb2 lbr
                        have hbe := HM6.out.be
                        obtain ⟨⟨l1, l2, l3⟩, ⟨q0, q1, q2⟩, ⟨r0, r1, r2⟩, ⟨e0, e1, e2, e3⟩, f2, fr, fl⟩ := HM6.out.rb
                        have lb2 : w.heap.size < w6.heap.size := by omega
                        have lbr : w2.heap.size < w6.heap.size := by omega
                        clear EL HM5 HM6 b6
                        go_wp2
                        refine bodyPost_ret (v := zeroRules 3) ?_ rfl (rdPost_err HERR.out ((below_res3 hbe _ _ _).alloc (by simpa using hbe.size) _))
                        rw [results_cell_tmp rfl]
                        unfold zeroRules
                        go_simp
                · go_wp2_with fail
                  refine (DEC _).mono ?_
                  rintro e w3 ⟨v3, rfl, i3, b3⟩
                  have D := d_any (zs := (Dec.decT y.size y).1) (by omega) i3
                  have HM3 : Hid (StM _ _ _ _ _ _ _ _) := HM.out.step b3
                  have hw3 : Hid (w2.heap.size + 1 + 1 ≤ w3.heap.size) := by show _ ≤ _; have := b3.size; omega
                  clear DEC HM q0 q1 q2 r0 r1 r2 f2 fr hcx hcy hbe l1 l2 l3 b3 i3
                  go_wp2_with fail
                  refine D.mono ?_
                  rintro e w4 ⟨v4, rfl, i4, b4⟩
                  have HM4 : Hid (StM _ _ _ _ _ _ _ _) := HM3.out.step b4
                  have i4b := ints_low2 i4 hw3.out
                  clear D HM3 b4 hw3 i4
                  generalize hl4 : nD (Dec.decT y.size y).1 = l at *
                  have HL4 : Hid _ := hl4
                  clear hl4
                  obtain ⟨a4, c4, rfl⟩ : ∃ a c, v4 = .slice a l.length c := by
                    rcases i4b.form with ⟨rfl, rfl⟩ | ⟨g, cap, rfl, _, _⟩
                    · exact ⟨_, _, rfl⟩
                    · exact ⟨_, _, rfl⟩
                  have RN := runes3_any (by omega) i4b
                  go_wp2_with fail
                  refine RN.mono ?_
                  rintro e w5 ⟨rfl, b5⟩
                  have HM5 : Hid (StM _ _ _ _ _ _ _ _) := HM4.out.step b5
                  have I5 : Hid (Ints _ _ _ _) := i4b.below b5
                  clear RN HM4 b5 i4b
                  cases hro : runesOk l
                  · have HERR : Hid (ans = .error 2) := by show _ = _; rw [← HDR2.out, readW_onee C1.out C2.out C3.out hyl (by rw [HL4.out]; exact putIn_bad hro)]
                    have hbe := HM5.out.be
                    obtain ⟨⟨l1, l2, l3⟩, ⟨q0, q1, q2⟩, ⟨r0, r1, r2⟩, ⟨e0, e1, e2, e3⟩, f2, fr, fl⟩ := HM5.out.rb
                    have lb2 : w.heap.size < w5.heap.size := by omega
                    have lbr : w2.heap.size < w5.heap.size := by omega
                    clear HDR2 HM5 C1 C2 C3 I5 HL4
                    go_wp2
                    refine bodyPost_ret (v := zeroRules 2) ?_ rfl (rdPost_err HERR.out (below_res3 hbe _ _ _))
                    rw [results_cell_tmp rfl]
                    unfold zeroRules
                    go_simp
                  · have hll := runesOk_len hro
                    have hrl : ∀ e ∈ st.es, e.runes.length ≤ 1048576 := fun e he => Nat.le_trans (runesOk_len ((rulesOk_whole HI.out.good).2.2 e he).1) (by omega)
                    have hel : st.es.length ≤ 40 := (rulesOk_whole HI.out.good).1
                    cases hrs : st.reset
                    · have HERR : Hid (ans = .error 3) := by show _ = _; rw [← HDR2.out, readW_onee C1.out C2.out C3.out hyl (by rw [HL4.out]; exact putIn_first hro (by omega) hrs)]
                      have hbe := HM5.out.be
                      obtain ⟨⟨l1, l2, l3⟩, ⟨q0, q1, q2⟩, ⟨r0, r1, r2⟩, ⟨e0, e1, e2, e3⟩, f2, fr, fl⟩ := HM5.out.rb
                      have lb2 : w.heap.size < w5.heap.size := by omega
                      have lbr : w2.heap.size < w5.heap.size := by omega
                      clear HDR2 HM5 C1 C2 C3 I5 HL4 hrl
                      go_wp2
                      refine bodyPost_ret (v := zeroRules 3) ?_ rfl (rdPost_err HERR.out (below_res3 hbe _ _ _))
                      rw [results_cell_tmp rfl]
                      unfold zeroRules
                      go_simp
                    · have AT := at3_any (sh := st.sh) (lv := st.lv) HM5.out.en I5.out (by omega) (by omega) hrl
                      clear hrl
                      have hbe := HM5.out.be
                      obtain ⟨⟨l1, l2, l3⟩, ⟨q0, q1, q2⟩, ⟨r0, r1, r2⟩, ⟨e0, e1, e2, e3⟩, f2, fr, fl⟩ := HM5.out.rb
                      have lb2 : w.heap.size < w5.heap.size := by omega
                      have lbr : w2.heap.size < w5.heap.size := by omega
                      go_wp2_with fail
                      refine AT.mono ?_
                      rintro e w6 ⟨rfl, b6⟩
                      have HM6 : Hid (StM _ _ _ _ _ _ _ _) := HM5.out.step b6
                      have I6 : Hid (Ints _ _ _ _) := I5.out.below b6
                      clear q0 q1 q2 r0 r1 r2 e0 e1 e2 e3 f2 fr fl hbe l1 l2 l3 lb2 lbr
                      clear AT HM5 I5 b6
                      have hbe := HM6.out.be
                      obtain ⟨⟨l1, l2, l3⟩, ⟨q0, q1, q2⟩, ⟨r0, r1, r2⟩, ⟨e0, e1, e2, e3⟩, f2, fr, fl⟩ := HM6.out.rb
                      have lb2 : w.heap.size < w6.heap.size := by omega
                      have lbr : w2.heap.size < w6.heap.size := by omega
                      by_cases hat : 0 ≤ atE st.es l
                      · have HERR : Hid (ans = .error 4) := by show _ = _; rw [← HDR2.out, readW_onee C1.out C2.out C3.out hyl (by rw [HL4.out]; exact putIn_twice hro (by omega) hrs hat)]
                        clear HDR2 HM6 C1 C2 C3 I6 HL4
                        go_wp2
                        refine bodyPost_ret (v := zeroRules 4) ?_ rfl (rdPost_err HERR.out (below_res3 hbe _ _ _))
                        rw [results_cell_tmp rfl]
                        unfold zeroRules
                        go_simp
                      · have BH := behind_any (sh := st.sh) (lv := st.lv) (n := 1) HM6.out.en HI.out (by omega)
                        have HPUT := putIn_put (lev := 1) hro (by omega) hrs hat
                        obtain ⟨nb, HNB⟩ : ∃ nb, Hid (behindE st.es st.last 1 = nb) := ⟨_, rfl⟩
                        rw [HNB.out] at BH HPUT
                        unfold elV at BH
                        go_wp2_with fail
                        refine BH.mono ?_
                        rintro e w7 ⟨rfl, b7⟩
                        have HM7 : Hid (StM _ _ _ _ _ _ _ _) := HM6.out.step b7
                        have I7 : Hid (Ints _ _ _ _) := I6.out.below b7
                        clear q0 q1 q2 r0 r1 r2 e0 e1 e2 e3 f2 fr fl hbe l1 l2 l3 lb2 lbr
                        clear BH HM6 I6 b7
                        have hM8 := HM7.out.setLast nb st.reset
                        have i8 : Ints (setEl w7 (w2.heap.size + 1) nb) _ _ _ := World.ownsRow.kept I7.out (setEl_grown w7 (w2.heap.size + 1) nb) (own_above I7.out (Nat.le_refl _))
                        have hbe := HM7.out.be
                        obtain ⟨⟨l1, l2, l3⟩, ⟨q0, q1, q2⟩, ⟨r0, r1, r2⟩, ⟨e0, e1, e2, e3⟩, f2, fr, fl⟩ := HM7.out.rb
                        have lb2 : w.heap.size < w7.heap.size := by omega
                        have lbr : w2.heap.size < w7.heap.size := by omega
                        obtain ⟨xs, hxl, h1, h2⟩ := hM8.en
                        have HM8 : Hid (StM _ _ _ _ _ _ _ _) := hM8
                        have H2 : Hid _ := h2
                        have I8 : Hid (Ints _ _ _ _) := i8
                        obtain ⟨it, hit, hzz, hz1, hz2⟩ := info_parts info_ent
                        clear HM7 I7 hM8 h2 i8 hbe
                        go_wp2_with (at_builtin; refine wpList_append_lies _ rfl _ _ 30 rfl (w2.heap.size + 1 + 1) 52 it _ 5 56 Tryz.underlying30 hit hzz hz1 hz2 rfl (by decide) _ _ _ rfl (h1.alloc _) ⟨w7.heap.size, 0, none⟩ 1 1 (entC (.slice a4 l.length c4) nb) rfl rfl (cells5_at _ _ _ _ _ (by simp)) ?hone (by omega) (by unfold maxLen; omega) (by omega) (by simp; omega) (w7.heap.size + 1) (by simp) ?_)
                        case hone =>
                          intro z hz
                          simp [entC] at hz
                          rcases hz with rfl | rfl | rfl | rfl | rfl <;> rfl
                        intro g9 cap9 w9 ho9 hg9 _ _
                        have hMp := StM.put (l := l) (HM8.out.step ((Below.refl _ _).alloc (Nat.le_refl _) (.cells #[.slice a4 l.length c4, .int .i64 nb.first, .int .i64 nb.second, .int .i64 nb.third, .bool nb.varies] 52))) hxl
                          (fun kk ee he => by obtain ⟨z, hz, hzi⟩ := H2.out kk ee he; exact ⟨z, hz, hzi.below ((Below.refl _ _).alloc (Nat.le_refl _) _)⟩) (I8.out.below ((Below.refl _ _).alloc (Nat.le_refl _) _)) (h1.alloc _) hg9 ho9
                        have HM9 : Hid (StM _ _ _ _ _ _ _ _) := hMp
                        have hr9 : ∀ e ∈ st.es ++ [⟨l, nb⟩], e.runes.length ≤ 1048576 := fun e he => by
                          rcases List.mem_append.1 he with h | h
                          · exact Nat.le_trans (runesOk_len ((rulesOk_whole HI.out.good).2.2 e h).1) (by omega)
                          · simp at h; subst h; exact Nat.le_trans hll (by omega)
                        have GR := good3_any (sh := st.sh) (lv := st.lv) hMp.en hr9
                        have rbp := (HM8.out.step ((Below.refl _ _).alloc (Nat.le_refl _) (.cells #[.slice a4 l.length c4, .int .i64 nb.first, .int .i64 nb.second, .int .i64 nb.third, .bool nb.varies] 52))).rb.upTo (Below.grown (Below.refl (w2.heap.size + 1 + 1) _) hg9 (by unfold setEl; simp; omega) (fun j hj => (World.ownsRow.lt h1 j hj).1)) (Nat.lt_succ_self _)
                        clear q0 q1 q2 r0 r1 r2 e0 e1 e2 e3 f2 fr fl hMp HM8 H2 I8 h1 hg9 ho9 hr9
                        obtain ⟨⟨l1', l2', l3'⟩, ⟨q0, q1, q2⟩, ⟨r0, r1, r2⟩, ⟨e0, e1, e2, e3⟩, f2, fr, fl⟩ := rbp
                        go_wp2_with fail
                        refine GR.mono ?_
                        rintro e w10 ⟨rfl, b10⟩
                        have HM10 : Hid (StM _ _ _ _ _ _ _ _) := HM9.out.step b10
                        clear q0 q1 q2 r0 r1 r2 e0 e1 e2 e3 f2 fr fl GR HM9 l1 l2 l3 lb2 lbr l1' l2' l3' b10
                        cases hgd : rulesOk (st.es ++ [⟨l, nb⟩]) st.lv
                        · have HERR : Hid (ans = .error 5) := by show _ = _; rw [← HDR2.out, readW_onee C1.out C2.out C3.out hyl (by rw [HL4.out, HPUT, if_neg (by simp [hgd])])]
                          have hbe := HM10.out.be
                          obtain ⟨⟨l1, l2, l3⟩, ⟨q0, q1, q2⟩, ⟨r0, r1, r2⟩, ⟨e0, e1, e2, e3⟩, f2, fr, fl⟩ := HM10.out.rb
                          clear HDR2 C1 C2 C3 HL4 HPUT HM10
                          go_wp2
                          refine bodyPost_ret (v := zeroRules 5) ?_ rfl (rdPost_err HERR.out (below_res3 hbe _ _ _))
                          rw [results_cell_tmp rfl]
                          unfold zeroRules
                          go_simp
                        · have HP : putIn st 1 l = .ok { st with es := st.es ++ [⟨l, nb⟩], last := nb } := by rw [HPUT, if_pos hgd]
                          have HOK : Hid (readW (ws.drop (k + 1 + 1)) { st with es := st.es ++ [⟨l, nb⟩], last := nb } = ans) := by show _ = _; rw [← HDR2.out, readW_onek C1.out C2.out C3.out hyl (by rw [HL4.out]; exact HP)]
                          have HI2 : Hid (RInv { st with es := st.es ++ [⟨l, nb⟩], last := nb }) := putIn_inv HI.out HP
                          clear HDR2 C1 C2 C3 HL4 HPUT HP
                          go_wp2
                          exact ⟨⟨k + 1 + 1, { st with es := st.es ++ [⟨l, nb⟩], last := nb }, _, hl2, by go_num, by show Value.bool true = Value.bool st.reset; rw [hrs], HOK.out, HI2.out, HM10.out⟩, by simp [intOf]; omega⟩
                · go_wp2_with fail
                  refine (DEC _).mono ?_
                  rintro e w3 ⟨v3, rfl, i3, b3⟩
                  have D := d_any (zs := (Dec.decT y.size y).1) (by omega) i3
                  have HM3 : Hid (StM _ _ _ _ _ _ _ _) := HM.out.step b3
                  have hw3 : Hid (w2.heap.size + 1 + 1 ≤ w3.heap.size) := by show _ ≤ _; have := b3.size; omega
                  clear DEC HM q0 q1 q2 r0 r1 r2 f2 fr hcx hcy hbe l1 l2 l3 b3 i3
                  go_wp2_with fail
                  refine D.mono ?_
                  rintro e w4 ⟨v4, rfl, i4, b4⟩
                  have HM4 : Hid (StM _ _ _ _ _ _ _ _) := HM3.out.step b4
                  have i4b := ints_low2 i4 hw3.out
                  clear D HM3 b4 hw3 i4
                  generalize hl4 : nD (Dec.decT y.size y).1 = l at *
                  have HL4 : Hid _ := hl4
                  clear hl4
                  obtain ⟨a4, c4, rfl⟩ : ∃ a c, v4 = .slice a l.length c := by
                    rcases i4b.form with ⟨rfl, rfl⟩ | ⟨g, cap, rfl, _, _⟩
                    · exact ⟨_, _, rfl⟩
                    · exact ⟨_, _, rfl⟩
                  have RN := runes3_any (by omega) i4b
                  go_wp2_with fail
                  refine RN.mono ?_
                  rintro e w5 ⟨rfl, b5⟩
                  have HM5 : Hid (StM _ _ _ _ _ _ _ _) := HM4.out.step b5
                  have I5 : Hid (Ints _ _ _ _) := i4b.below b5
                  clear RN HM4 b5 i4b
                  cases hro : runesOk l
                  · have HERR : Hid (ans = .error 2) := by show _ = _; rw [← HDR2.out, readW_onee C1.out C2.out C3.out hyl (by rw [HL4.out]; exact putIn_bad hro)]
                    have hbe := HM5.out.be
                    obtain ⟨⟨l1, l2, l3⟩, ⟨q0, q1, q2⟩, ⟨r0, r1, r2⟩, ⟨e0, e1, e2, e3⟩, f2, fr, fl⟩ := HM5.out.rb
                    have lb2 : w.heap.size < w5.heap.size := by omega
                    have lbr : w2.heap.size < w5.heap.size := by omega
                    clear HDR2 HM5 C1 C2 C3 I5 HL4
                    go_wp2
                    refine bodyPost_ret (v := zeroRules 2) ?_ rfl (rdPost_err HERR.out (below_res3 hbe _ _ _))
                    rw [results_cell_tmp rfl]
                    unfold zeroRules
                    go_simp
                  · have hll := runesOk_len hro
                    have hrl : ∀ e ∈ st.es, e.runes.length ≤ 1048576 := fun e he => Nat.le_trans (runesOk_len ((rulesOk_whole HI.out.good).2.2 e he).1) (by omega)
                    have hel : st.es.length ≤ 40 := (rulesOk_whole HI.out.good).1
                    cases hrs : st.reset
                    · have HERR : Hid (ans = .error 3) := by show _ = _; rw [← HDR2.out, readW_onee C1.out C2.out C3.out hyl (by rw [HL4.out]; exact putIn_first hro (by omega) hrs)]
                      have hbe := HM5.out.be
                      obtain ⟨⟨l1, l2, l3⟩, ⟨q0, q1, q2⟩, ⟨r0, r1, r2⟩, ⟨e0, e1, e2, e3⟩, f2, fr, fl⟩ := HM5.out.rb
                      have lb2 : w.heap.size < w5.heap.size := by omega
                      have lbr : w2.heap.size < w5.heap.size := by omega
                      clear HDR2 HM5 C1 C2 C3 I5 HL4 hrl
                      go_wp2
                      refine bodyPost_ret (v := zeroRules 3) ?_ rfl (rdPost_err HERR.out (below_res3 hbe _ _ _))
                      rw [results_cell_tmp rfl]
                      unfold zeroRules
                      go_simp
                    · have AT := at3_any (sh := st.sh) (lv := st.lv) HM5.out.en I5.out (by omega) (by omega) hrl
                      clear hrl
                      have hbe := HM5.out.be
                      obtain ⟨⟨l1, l2, l3⟩, ⟨q0, q1, q2⟩, ⟨r0, r1, r2⟩, ⟨e0, e1, e2, e3⟩, f2, fr, fl⟩ := HM5.out.rb
                      have lb2 : w.heap.size < w5.heap.size := by omega
                      have lbr : w2.heap.size < w5.heap.size := by omega
                      go_wp2_with fail
                      refine AT.mono ?_
                      rintro e w6 ⟨rfl, b6⟩
                      have HM6 : Hid (StM _ _ _ _ _ _ _ _) := HM5.out.step b6
                      have I6 : Hid (Ints _ _ _ _) := I5.out.below b6
                      clear q0 q1 q2 r0 r1 r2 e0 e1 e2 e3 f2 fr fl hbe l1 l2 l3 lb2 lbr
                      clear AT HM5 I5 b6
                      have hbe := HM6.out.be
                      obtain ⟨⟨l1, l2, l3⟩, ⟨q0, q1, q2⟩, ⟨r0, r1, r2⟩, ⟨e0, e1, e2, e3⟩, f2, fr, fl⟩ := HM6.out.rb
                      have lb2 : w.heap.size < w6.heap.size := by omega
                      have lbr : w2.heap.size < w6.heap.size := by omega
                      by_cases hat : 0 ≤ atE st.es l
                      · have HERR : Hid (ans = .error 4) := by show _ = _; rw [← HDR2.out, readW_onee C1.out C2.out C3.out hyl (by rw [HL4.out]; exact putIn_twice hro (by omega) hrs hat)]
                        clear HDR2 HM6 C1 C2 C3 I6 HL4
                        go_wp2
                        refine bodyPost_ret (v := zeroRules 4) ?_ rfl (rdPost_err HERR.out (below_res3 hbe _ _ _))
                        rw [results_cell_tmp rfl]
                        unfold zeroRules
                        go_simp
                      · have BH := behind_any (sh := st.sh) (lv := st.lv) (n := 2) HM6.out.en HI.out (by omega)
                        have HPUT := putIn_put (lev := 2) hro (by omega) hrs hat
                        obtain ⟨nb, HNB⟩ : ∃ nb, Hid (behindE st.es st.last 2 = nb) := ⟨_, rfl⟩
                        rw [HNB.out] at BH HPUT
                        unfold elV at BH
                        go_wp2_with fail
                        refine BH.mono ?_
                        rintro e w7 ⟨rfl, b7⟩
                        have HM7 : Hid (StM _ _ _ _ _ _ _ _) := HM6.out.step b7
                        have I7 : Hid (Ints _ _ _ _) := I6.out.below b7
                        clear q0 q1 q2 r0 r1 r2 e0 e1 e2 e3 f2 fr fl hbe l1 l2 l3 lb2 lbr
                        clear BH HM6 I6 b7
                        have hM8 := HM7.out.setLast nb st.reset
                        have i8 : Ints (setEl w7 (w2.heap.size + 1) nb) _ _ _ := World.ownsRow.kept I7.out (setEl_grown w7 (w2.heap.size + 1) nb) (own_above I7.out (Nat.le_refl _))
                        have hbe := HM7.out.be
                        obtain ⟨⟨l1, l2, l3⟩, ⟨q0, q1, q2⟩, ⟨r0, r1, r2⟩, ⟨e0, e1, e2, e3⟩, f2, fr, fl⟩ := HM7.out.rb
                        have lb2 : w.heap.size < w7.heap.size := by omega
                        have lbr : w2.heap.size < w7.heap.size := by omega
                        obtain ⟨xs, hxl, h1, h2⟩ := hM8.en
                        have HM8 : Hid (StM _ _ _ _ _ _ _ _) := hM8
                        have H2 : Hid _ := h2
                        have I8 : Hid (Ints _ _ _ _) := i8
                        obtain ⟨it, hit, hzz, hz1, hz2⟩ := info_parts info_ent
                        clear HM7 I7 hM8 h2 i8 hbe
                        go_wp2_with (at_builtin; refine wpList_append_lies _ rfl _ _ 30 rfl (w2.heap.size + 1 + 1) 52 it _ 5 56 Tryz.underlying30 hit hzz hz1 hz2 rfl (by decide) _ _ _ rfl (h1.alloc _) ⟨w7.heap.size, 0, none⟩ 1 1 (entC (.slice a4 l.length c4) nb) rfl rfl (cells5_at _ _ _ _ _ (by simp)) ?hone (by omega) (by unfold maxLen; omega) (by omega) (by simp; omega) (w7.heap.size + 1) (by simp) ?_)
                        case hone =>
                          intro z hz
                          simp [entC] at hz
                          rcases hz with rfl | rfl | rfl | rfl | rfl <;> rfl
                        intro g9 cap9 w9 ho9 hg9 _ _
                        have hMp := StM.put (l := l) (HM8.out.step ((Below.refl _ _).alloc (Nat.le_refl _) (.cells #[.slice a4 l.length c4, .int .i64 nb.first, .int .i64 nb.second, .int .i64 nb.third, .bool nb.varies] 52))) hxl
                          (fun kk ee he => by obtain ⟨z, hz, hzi⟩ := H2.out kk ee he; exact ⟨z, hz, hzi.below ((Below.refl _ _).alloc (Nat.le_refl _) _)⟩) (I8.out.below ((Below.refl _ _).alloc (Nat.le_refl _) _)) (h1.alloc _) hg9 ho9
                        have HM9 : Hid (StM _ _ _ _ _ _ _ _) := hMp
                        have hr9 : ∀ e ∈ st.es ++ [⟨l, nb⟩], e.runes.length ≤ 1048576 := fun e he => by
                          rcases List.mem_append.1 he with h | h
                          · exact Nat.le_trans (runesOk_len ((rulesOk_whole HI.out.good).2.2 e h).1) (by omega)
                          · simp at h; subst h; exact Nat.le_trans hll (by omega)
                        have GR := good3_any (sh := st.sh) (lv := st.lv) hMp.en hr9
                        have rbp := (HM8.out.step ((Below.refl _ _).alloc (Nat.le_refl _) (.cells #[.slice a4 l.length c4, .int .i64 nb.first, .int .i64 nb.second, .int .i64 nb.third, .bool nb.varies] 52))).rb.upTo (Below.grown (Below.refl (w2.heap.size + 1 + 1) _) hg9 (by unfold setEl; simp; omega) (fun j hj => (World.ownsRow.lt h1 j hj).1)) (Nat.lt_succ_self _)
                        clear q0 q1 q2 r0 r1 r2 e0 e1 e2 e3 f2 fr fl hMp HM8 H2 I8 h1 hg9 ho9 hr9
                        obtain ⟨⟨l1', l2', l3'⟩, ⟨q0, q1, q2⟩, ⟨r0, r1, r2⟩, ⟨e0, e1, e2, e3⟩, f2, fr, fl⟩ := rbp
                        go_wp2_with fail
                        refine GR.mono ?_
                        rintro e w10 ⟨rfl, b10⟩
                        have HM10 : Hid (StM _ _ _ _ _ _ _ _) := HM9.out.step b10
                        clear q0 q1 q2 r0 r1 r2 e0 e1 e2 e3 f2 fr fl GR HM9 l1 l2 l3 lb2 lbr l1' l2' l3' b10
                        cases hgd : rulesOk (st.es ++ [⟨l, nb⟩]) st.lv
                        · have HERR : Hid (ans = .error 5) := by show _ = _; rw [← HDR2.out, readW_onee C1.out C2.out C3.out hyl (by rw [HL4.out, HPUT, if_neg (by simp [hgd])])]
                          have hbe := HM10.out.be
                          obtain ⟨⟨l1, l2, l3⟩, ⟨q0, q1, q2⟩, ⟨r0, r1, r2⟩, ⟨e0, e1, e2, e3⟩, f2, fr, fl⟩ := HM10.out.rb
                          clear HDR2 C1 C2 C3 HL4 HPUT HM10
                          go_wp2
                          refine bodyPost_ret (v := zeroRules 5) ?_ rfl (rdPost_err HERR.out (below_res3 hbe _ _ _))
                          rw [results_cell_tmp rfl]
                          unfold zeroRules
                          go_simp
                        · have HP : putIn st 2 l = .ok { st with es := st.es ++ [⟨l, nb⟩], last := nb } := by rw [HPUT, if_pos hgd]
                          have HOK : Hid (readW (ws.drop (k + 1 + 1)) { st with es := st.es ++ [⟨l, nb⟩], last := nb } = ans) := by show _ = _; rw [← HDR2.out, readW_onek C1.out C2.out C3.out hyl (by rw [HL4.out]; exact HP)]
                          have HI2 : Hid (RInv { st with es := st.es ++ [⟨l, nb⟩], last := nb }) := putIn_inv HI.out HP
                          clear HDR2 C1 C2 C3 HL4 HPUT HP
                          go_wp2
                          exact ⟨⟨k + 1 + 1, { st with es := st.es ++ [⟨l, nb⟩], last := nb }, _, hl2, by go_num, by show Value.bool true = Value.bool st.reset; rw [hrs], HOK.out, HI2.out, HM10.out⟩, by simp [intOf]; omega⟩
                · go_wp2_with fail
                  refine (DEC _).mono ?_
                  rintro e w3 ⟨v3, rfl, i3, b3⟩
                  have D := d_any (zs := (Dec.decT y.size y).1) (by omega) i3
                  have HM3 : Hid (StM _ _ _ _ _ _ _ _) := HM.out.step b3
                  have hw3 : Hid (w2.heap.size + 1 + 1 ≤ w3.heap.size) := by show _ ≤ _; have := b3.size; omega
                  clear DEC HM q0 q1 q2 r0 r1 r2 f2 fr hcx hcy hbe l1 l2 l3 b3 i3
                  go_wp2_with fail
                  refine D.mono ?_
                  rintro e w4 ⟨v4, rfl, i4, b4⟩
                  have HM4 : Hid (StM _ _ _ _ _ _ _ _) := HM3.out.step b4
                  have i4b := ints_low2 i4 hw3.out
                  clear D HM3 b4 hw3 i4
                  generalize hl4 : nD (Dec.decT y.size y).1 = l at *
                  have HL4 : Hid _ := hl4
                  clear hl4
                  obtain ⟨a4, c4, rfl⟩ : ∃ a c, v4 = .slice a l.length c := by
                    rcases i4b.form with ⟨rfl, rfl⟩ | ⟨g, cap, rfl, _, _⟩
                    · exact ⟨_, _, rfl⟩
                    · exact ⟨_, _, rfl⟩
                  have RN := runes3_any (by omega) i4b
                  go_wp2_with fail
                  refine RN.mono ?_
                  rintro e w5 ⟨rfl, b5⟩
                  have HM5 : Hid (StM _ _ _ _ _ _ _ _) := HM4.out.step b5
                  have I5 : Hid (Ints _ _ _ _) := i4b.below b5
                  clear RN HM4 b5 i4b
                  cases hro : runesOk l
                  · have HERR : Hid (ans = .error 2) := by show _ = _; rw [← HDR2.out, readW_onee C1.out C2.out C3.out hyl (by rw [HL4.out]; exact putIn_bad hro)]
                    have hbe := HM5.out.be
                    obtain ⟨⟨l1, l2, l3⟩, ⟨q0, q1, q2⟩, ⟨r0, r1, r2⟩, ⟨e0, e1, e2, e3⟩, f2, fr, fl⟩ := HM5.out.rb
                    have lb2 : w.heap.size < w5.heap.size := by omega
                    have lbr : w2.heap.size < w5.heap.size := by omega
                    clear HDR2 HM5 C1 C2 C3 I5 HL4
                    go_wp2
                    refine bodyPost_ret (v := zeroRules 2) ?_ rfl (rdPost_err HERR.out (below_res3 hbe _ _ _))
                    rw [results_cell_tmp rfl]
                    unfold zeroRules
                    go_simp
                  · have hll := runesOk_len hro
                    have hrl : ∀ e ∈ st.es, e.runes.length ≤ 1048576 := fun e he => Nat.le_trans (runesOk_len ((rulesOk_whole HI.out.good).2.2 e he).1) (by omega)
                    have hel : st.es.length ≤ 40 := (rulesOk_whole HI.out.good).1
                    cases hrs : st.reset
                    · have HERR : Hid (ans = .error 3) := by show _ = _; rw [← HDR2.out, readW_onee C1.out C2.out C3.out hyl (by rw [HL4.out]; exact putIn_first hro (by omega) hrs)]
                      have hbe := HM5.out.be
                      obtain ⟨⟨l1, l2, l3⟩, ⟨q0, q1, q2⟩, ⟨r0, r1, r2⟩, ⟨e0, e1, e2, e3⟩, f2, fr, fl⟩ := HM5.out.rb
                      have lb2 : w.heap.size < w5.heap.size := by omega
                      have lbr : w2.heap.size < w5.heap.size := by omega
                      clear HDR2 HM5 C1 C2 C3 I5 HL4 hrl
                      go_wp2
                      refine bodyPost_ret (v := zeroRules 3) ?_ rfl (rdPost_err HERR.out (below_res3 hbe _ _ _))
                      rw [results_cell_tmp rfl]
                      unfold zeroRules
                      go_simp
                    · have AT := at3_any (sh := st.sh) (lv := st.lv) HM5.out.en I5.out (by omega) (by omega) hrl
                      clear hrl
                      have hbe := HM5.out.be
                      obtain ⟨⟨l1, l2, l3⟩, ⟨q0, q1, q2⟩, ⟨r0, r1, r2⟩, ⟨e0, e1, e2, e3⟩, f2, fr, fl⟩ := HM5.out.rb
                      have lb2 : w.heap.size < w5.heap.size := by omega
                      have lbr : w2.heap.size < w5.heap.size := by omega
                      go_wp2_with fail
                      refine AT.mono ?_
                      rintro e w6 ⟨rfl, b6⟩
                      have HM6 : Hid (StM _ _ _ _ _ _ _ _) := HM5.out.step b6
                      have I6 : Hid (Ints _ _ _ _) := I5.out.below b6
                      clear q0 q1 q2 r0 r1 r2 e0 e1 e2 e3 f2 fr fl hbe l1 l2 l3 lb2 lbr
                      clear AT HM5 I5 b6
                      have hbe := HM6.out.be
                      obtain ⟨⟨l1, l2, l3⟩, ⟨q0, q1, q2⟩, ⟨r0, r1, r2⟩, ⟨e0, e1, e2, e3⟩, f2, fr, fl⟩ := HM6.out.rb
                      have lb2 : w.heap.size < w6.heap.size := by omega
                      have lbr : w2.heap.size < w6.heap.size := by omega
                      by_cases hat : 0 ≤ atE st.es l
                      · have HERR : Hid (ans = .error 4) := by show _ = _; rw [← HDR2.out, readW_onee C1.out C2.out C3.out hyl (by rw [HL4.out]; exact putIn_twice hro (by omega) hrs hat)]
                        clear HDR2 HM6 C1 C2 C3 I6 HL4
                        go_wp2
                        refine bodyPost_ret (v := zeroRules 4) ?_ rfl (rdPost_err HERR.out (below_res3 hbe _ _ _))
                        rw [results_cell_tmp rfl]
                        unfold zeroRules
                        go_simp
                      · have BH := behind_any (sh := st.sh) (lv := st.lv) (n := 3) HM6.out.en HI.out (by omega)
                        have HPUT := putIn_put (lev := 3) hro (by omega) hrs hat
                        obtain ⟨nb, HNB⟩ : ∃ nb, Hid (behindE st.es st.last 3 = nb) := ⟨_, rfl⟩
                        rw [HNB.out] at BH HPUT
                        unfold elV at BH
                        go_wp2_with fail
                        refine BH.mono ?_
                        rintro e w7 ⟨rfl, b7⟩
                        have HM7 : Hid (StM _ _ _ _ _ _ _ _) := HM6.out.step b7
                        have I7 : Hid (Ints _ _ _ _) := I6.out.below b7
                        clear q0 q1 q2 r0 r1 r2 e0 e1 e2 e3 f2 fr fl hbe l1 l2 l3 lb2 lbr
                        clear BH HM6 I6 b7
                        have hM8 := HM7.out.setLast nb st.reset
                        have i8 : Ints (setEl w7 (w2.heap.size + 1) nb) _ _ _ := World.ownsRow.kept I7.out (setEl_grown w7 (w2.heap.size + 1) nb) (own_above I7.out (Nat.le_refl _))
                        have hbe := HM7.out.be
                        obtain ⟨⟨l1, l2, l3⟩, ⟨q0, q1, q2⟩, ⟨r0, r1, r2⟩, ⟨e0, e1, e2, e3⟩, f2, fr, fl⟩ := HM7.out.rb
                        have lb2 : w.heap.size < w7.heap.size := by omega
                        have lbr : w2.heap.size < w7.heap.size := by omega
                        obtain ⟨xs, hxl, h1, h2⟩ := hM8.en
                        have HM8 : Hid (StM _ _ _ _ _ _ _ _) := hM8
                        have H2 : Hid _ := h2
                        have I8 : Hid (Ints _ _ _ _) := i8
                        obtain ⟨it, hit, hzz, hz1, hz2⟩ := info_parts info_ent
                        clear HM7 I7 hM8 h2 i8 hbe
                        go_wp2_with (at_builtin; refine wpList_append_lies _ rfl _ _ 30 rfl (w2.heap.size + 1 + 1) 52 it _ 5 56 Tryz.underlying30 hit hzz hz1 hz2 rfl (by decide) _ _ _ rfl (h1.alloc _) ⟨w7.heap.size, 0, none⟩ 1 1 (entC (.slice a4 l.length c4) nb) rfl rfl (cells5_at _ _ _ _ _ (by simp)) ?hone (by omega) (by unfold maxLen; omega) (by omega) (by simp; omega) (w7.heap.size + 1) (by simp) ?_)
                        case hone =>
                          intro z hz
                          simp [entC] at hz
                          rcases hz with rfl | rfl | rfl | rfl | rfl <;> rfl
                        intro g9 cap9 w9 ho9 hg9 _ _
                        have hMp := StM.put (l := l) (HM8.out.step ((Below.refl _ _).alloc (Nat.le_refl _) (.cells #[.slice a4 l.length c4, .int .i64 nb.first, .int .i64 nb.second, .int .i64 nb.third, .bool nb.varies] 52))) hxl
                          (fun kk ee he => by obtain ⟨z, hz, hzi⟩ := H2.out kk ee he; exact ⟨z, hz, hzi.below ((Below.refl _ _).alloc (Nat.le_refl _) _)⟩) (I8.out.below ((Below.refl _ _).alloc (Nat.le_refl _) _)) (h1.alloc _) hg9 ho9
                        have HM9 : Hid (StM _ _ _ _ _ _ _ _) := hMp
                        have hr9 : ∀ e ∈ st.es ++ [⟨l, nb⟩], e.runes.length ≤ 1048576 := fun e he => by
                          rcases List.mem_append.1 he with h | h
                          · exact Nat.le_trans (runesOk_len ((rulesOk_whole HI.out.good).2.2 e h).1) (by omega)
                          · simp at h; subst h; exact Nat.le_trans hll (by omega)
                        have GR := good3_any (sh := st.sh) (lv := st.lv) hMp.en hr9
                        have rbp := (HM8.out.step ((Below.refl _ _).alloc (Nat.le_refl _) (.cells #[.slice a4 l.length c4, .int .i64 nb.first, .int .i64 nb.second, .int .i64 nb.third, .bool nb.varies] 52))).rb.upTo (Below.grown (Below.refl (w2.heap.size + 1 + 1) _) hg9 (by unfold setEl; simp; omega) (fun j hj => (World.ownsRow.lt h1 j hj).1)) (Nat.lt_succ_self _)
                        clear q0 q1 q2 r0 r1 r2 e0 e1 e2 e3 f2 fr fl hMp HM8 H2 I8 h1 hg9 ho9 hr9
                        obtain ⟨⟨l1', l2', l3'⟩, ⟨q0, q1, q2⟩, ⟨r0, r1, r2⟩, ⟨e0, e1, e2, e3⟩, f2, fr, fl⟩ := rbp
                        go_wp2_with fail
                        refine GR.mono ?_
                        rintro e w10 ⟨rfl, b10⟩
                        have HM10 : Hid (StM _ _ _ _ _ _ _ _) := HM9.out.step b10
                        clear q0 q1 q2 r0 r1 r2 e0 e1 e2 e3 f2 fr fl GR HM9 l1 l2 l3 lb2 lbr l1' l2' l3' b10
                        cases hgd : rulesOk (st.es ++ [⟨l, nb⟩]) st.lv
                        · have HERR : Hid (ans = .error 5) := by show _ = _; rw [← HDR2.out, readW_onee C1.out C2.out C3.out hyl (by rw [HL4.out, HPUT, if_neg (by simp [hgd])])]
                          have hbe := HM10.out.be
                          obtain ⟨⟨l1, l2, l3⟩, ⟨q0, q1, q2⟩, ⟨r0, r1, r2⟩, ⟨e0, e1, e2, e3⟩, f2, fr, fl⟩ := HM10.out.rb
                          clear HDR2 C1 C2 C3 HL4 HPUT HM10
                          go_wp2
                          refine bodyPost_ret (v := zeroRules 5) ?_ rfl (rdPost_err HERR.out (below_res3 hbe _ _ _))
                          rw [results_cell_tmp rfl]
                          unfold zeroRules
                          go_simp
                        · have HP : putIn st 3 l = .ok { st with es := st.es ++ [⟨l, nb⟩], last := nb } := by rw [HPUT, if_pos hgd]
                          have HOK : Hid (readW (ws.drop (k + 1 + 1)) { st with es := st.es ++ [⟨l, nb⟩], last := nb } = ans) := by show _ = _; rw [← HDR2.out, readW_onek C1.out C2.out C3.out hyl (by rw [HL4.out]; exact HP)]
                          have HI2 : Hid (RInv { st with es := st.es ++ [⟨l, nb⟩], last := nb }) := putIn_inv HI.out HP
                          clear HDR2 C1 C2 C3 HL4 HPUT HP
                          go_wp2
                          exact ⟨⟨k + 1 + 1, { st with es := st.es ++ [⟨l, nb⟩], last := nb }, _, hl2, by go_num, by show Value.bool true = Value.bool st.reset; rw [hrs], HOK.out, HI2.out, HM10.out⟩, by simp [intOf]; omega⟩
            · have HERR : Hid (ans = .error 2) := by show _ = _; rw [← HDR.out, drop_end (by omega), readW_one0 C1.out C2.out C3.out]
              have he : ((k : Int) + 1 == (ws.length : Int)) = true := by simp; omega
              clear HDR HM C1 C2 C3
              rcases hcs with ⟨_, d0⟩ | ⟨_, d0, d1⟩ | ⟨_, d0, d1, d2⟩ | ⟨_, d0, d1, d2, d3⟩
              · go_wp2
                refine bodyPost_ret (v := zeroRules 2) ?_ rfl (rdPost_err HERR.out (below_res3 hbe _ _ _))
                rw [results_cell_tmp rfl]
                unfold zeroRules
                go_simp
              · go_wp2
                refine bodyPost_ret (v := zeroRules 2) ?_ rfl (rdPost_err HERR.out (below_res3 hbe _ _ _))
                rw [results_cell_tmp rfl]
                unfold zeroRules
                go_simp
              · go_wp2
                refine bodyPost_ret (v := zeroRules 2) ?_ rfl (rdPost_err HERR.out (below_res3 hbe _ _ _))
                rw [results_cell_tmp rfl]
                unfold zeroRules
                go_simp
              · go_wp2
                refine bodyPost_ret (v := zeroRules 2) ?_ rfl (rdPost_err HERR.out (below_res3 hbe _ _ _))
                rw [results_cell_tmp rfl]
                unfold zeroRules
                go_simp
        · have C1 : Hid _ := c1
          have C2 : Hid _ := c2
          unfold wShift at c1
          unfold wLevels at c2
          by_cases hl2 : k + 1 < ws.length
          · obtain ⟨y, hy⟩ : ∃ y, ws[k + 1]? = some y := ⟨_, List.getElem?_eq_getElem hl2⟩
            have hcy := HM.out.sr.cell (k + 1) y hy
            have HDR2 : Hid (readW (x :: y :: ws.drop (k + 1 + 1)) st = ans) := by show _ = _; rw [← drop_at hy]; exact HDR.out
            have he : ((k : Int) + 1 == (ws.length : Int)) = false := by simp; omega
            have hk9 : (k : Int) + 1 < (ws.length : Int) := by omega
            clear hy HDR
            by_cases z0 : y.size = 2
            · have z0' : ((y.size : Int) != 2) = false := by simp; omega
              have y0 : 0 < y.size := by omega
              have y1 : 1 < y.size := by omega
              have E0 := Dec.bt_get y 0 y0
              have E1 := Dec.bt_get y 1 y1
              have i3 : (y[0]'y0).toNat < 256 := (y[0]'y0).toNat_lt
              have i4 : (y[1]'y1).toNat < 256 := (y[1]'y1).toNat_lt
              by_cases z1 : 49 ≤ Dec.bt y 0
              · have i0 : ¬ ((y[0]'y0).toNat : Int) < 49 := by omega
                by_cases z2 : Dec.bt y 0 ≤ 52
                · have i1 : ¬ (52 : Int) < ((y[0]'y0).toNat : Int) := by omega
                  by_cases z3 : Dec.bt y 1 = 93
                  · have hlv := levN_yes ⟨z0, z1, z2, z3⟩
                    rw [← E0] at hlv
                    have HOK : Hid (readW (ws.drop (k + 1 + 1)) { st with lv := ((y[0]'y0).toNat : Int) - 48 } = ans) := by show _ = _; rw [← HDR2.out, readW_levs C1.out C2.out hlv]
                    have i2 : (((y[1]'y1).toNat : Int) != 93) = false := by simp; omega
                    have HM2 : Hid (StM _ _ _ _ _ _ _ _) := HM.out.setLv (((y[0]'y0).toNat : Int) - 48)
                    have hn4 : Hid (1 ≤ ((y[0]'y0).toNat : Int) - 48 ∧ ((y[0]'y0).toNat : Int) - 48 ≤ 4) := by show _ ∧ _; omega
                    clear HDR2 z1 z2 z3 E0 E1 hlv HM hbe C1 C2
                    go_wp2
                    exact ⟨⟨k + 1 + 1, { st with lv := ((y[0]'y0).toNat : Int) - 48 }, _, hl2, by go_num, rfl, HOK.out, ⟨rulesOk_lv HI.out.good hn4.out, HI.out.f0, HI.out.f1, HI.out.s0, HI.out.s1, HI.out.t0, HI.out.t1⟩, HM2.out⟩, by simp [intOf]; omega⟩
                  · have HERR : Hid (ans = .error 2) := by show _ = _; rw [← HDR2.out, readW_levn C1.out C2.out (levN_no fun h => z3 h.2.2.2)]
                    have i2 : (((y[1]'y1).toNat : Int) != 93) = true := by simp; omega
                    clear HDR2 z1 z2 z3 E0 E1 HM C1 C2
                    go_wp2
                    refine bodyPost_ret (v := zeroRules 2) ?_ rfl (rdPost_err HERR.out (below_res3 hbe _ _ _))
                    rw [results_cell_tmp rfl]
                    unfold zeroRules
                    go_simp
                · have HERR : Hid (ans = .error 2) := by show _ = _; rw [← HDR2.out, readW_levn C1.out C2.out (levN_no fun h => z2 h.2.2.1)]
                  have i1 : (52 : Int) < ((y[0]'y0).toNat : Int) := by omega
                  clear HDR2 z1 z2 E0 E1 HM C1 C2
                  go_wp2
                  refine bodyPost_ret (v := zeroRules 2) ?_ rfl (rdPost_err HERR.out (below_res3 hbe _ _ _))
                  rw [results_cell_tmp rfl]
                  unfold zeroRules
                  go_simp
              · have HERR : Hid (ans = .error 2) := by show _ = _; rw [← HDR2.out, readW_levn C1.out C2.out (levN_no fun h => z1 h.2.1)]
                have i0 : ((y[0]'y0).toNat : Int) < 49 := by omega
                clear HDR2 z1 E0 E1 HM C1 C2
                go_wp2
                refine bodyPost_ret (v := zeroRules 2) ?_ rfl (rdPost_err HERR.out (below_res3 hbe _ _ _))
                rw [results_cell_tmp rfl]
                unfold zeroRules
                go_simp
            · have HERR : Hid (ans = .error 2) := by show _ = _; rw [← HDR2.out, readW_levn C1.out C2.out (levN_no fun h => z0 h.1)]
              have z0' : ((y.size : Int) != 2) = true := by simp; omega
              clear HDR2 z0 HM C1 C2
              go_wp2
              refine bodyPost_ret (v := zeroRules 2) ?_ rfl (rdPost_err HERR.out (below_res3 hbe _ _ _))
              rw [results_cell_tmp rfl]
              unfold zeroRules
              go_simp
          · have HERR : Hid (ans = .error 2) := by show _ = _; rw [← HDR.out, drop_end (by omega), readW_lev0 C1.out C2.out]
            have he : ((k : Int) + 1 == (ws.length : Int)) = true := by simp; omega
            clear HDR HM C1 C2
            go_wp2
            refine bodyPost_ret (v := zeroRules 2) ?_ rfl (rdPost_err HERR.out (below_res3 hbe _ _ _))
            rw [results_cell_tmp rfl]
            unfold zeroRules
            go_simp
      · have HR2 : Hid (readW (ws.drop (k + 1)) { st with sh := true } = ans) := by
          show _ = _
          rw [← HDR.out, readW_shift c1]
        unfold wShift at c1
        have HM2 : Hid (StM _ _ _ _ _ _ _ _) := HM.out.setSh true
        clear HDR HM hbe
        go_wp2
        exact ⟨⟨k + 1, { st with sh := true }, _, hlt, by go_num, rfl, HR2.out, ⟨HI.out.good, HI.out.f0, HI.out.f1, HI.out.s0, HI.out.s1, HI.out.t0, HI.out.t1⟩, HM2.out⟩, by simp [intOf]; omega⟩
    · have hk3 : k = ws.length := by omega
      subst hk3
      have HA : Hid (ans = .ok st) := by show _ = _; rw [← HR.out, List.drop_length, readW_nil]
      have hE2 := ((((HM.out.en.grown (setCell_grown wr w.heap.size 0 (.slice ae st.es.length ce)) (by omega)).grown (setCell_grown _ w.heap.size 1 (.bool st.sh)) (by omega)).grown (setCell_grown _ w.heap.size 2 (.int .i64 st.lv)) (by omega))).low (B := w.heap.size) (by omega)
      have HE2 : Hid (Ents _ _ _ _) := hE2
      clear HR hE2 HM
      go_wp2
      refine bodyPost_ret (v := .tuple #[.agg #[.slice ae st.es.length ce, .bool st.sh, .int .i64 st.lv], .int .i64 0]) ?_ rfl ⟨_, by rw [HA.out]; rfl, by rw [HA.out]; exact HE2.out, below_res3 hbe _ _ _⟩
      rw [results_cell_tmp rfl]
      go_simp

theorem read_any (s : ByteArray) (w : World) (hs : s.size ≤ 1073741824) : Calls Tryz.prog 9 #[.string s] w fun e w' => RdPost w (readA s) e w' := by
  by_cases h : 300 < s.size
  · exact read_long s w h hs
  · exact read_short s w (by omega)
end Go.Proofs.YtakfnmhokijcoaaGreatDoor
