/- Texts of mine laid together: IWeight, IBase0, IEntry, IRow, ISlices, IBlock, IMark, ITake, ITake2, ElApp. -/
import Derived.Test.YtinjldagfhbioaaGreatDoorMD3
import Derived.Test.YtinjldagfhbioaaGreatDoorMD2
import Derived.Test.YtinjldagfhbioaaGreatDoorSEl3
import Derived.Test.YtinjldagfhbioaaGreatDoorPEnt
import Derived.Shelf.Slices.Clone
import Derived.Shelf.Slices.Cells
import Derived.Lib.AppendZeros
import Derived.Deep.MidRow
import Derived.Test.YtinjldagfhbioaaGreatDoorNorm2
import Derived.Test.YtinjldagfhbioaaGreatDoorPKey
import Derived.Deep.Cut
import Derived.Deep.CutRange
import Derived.Deep.RegionWith
import Derived.Deep.Upon
import Derived.Test.YtinjldagfhbioaaGreatDoorFour
namespace Go.Proofs.YtinjldagfhbioaaGreatDoor
open Go.RowKit

set_option maxRecDepth 100000 in
set_option maxHeartbeats 1000000 in
theorem plainElem_any (n : Int) (w : World) : Calls Tryz.prog 105 #[.int .i64 n] w fun e w' => e = .returned (.agg #[.int .i64 n, .int .i64 32, .int .i64 2, .bool false]) ∧ Below w.heap.size w w' := by
  go_enter Tryz.func105, Tryz.ntmps105
  go_wp2
  refine bodyPost_ret (v := .agg #[.int .i64 n, .int .i64 32, .int .i64 2, .bool false]) ?_ rfl ⟨rfl, (Below.refl _ _).alloc (Nat.le_refl _) _⟩
  rw [results_cell1 rfl]
  go_simp

/-- The interface value of what a rune weighs. -/
def wtV : List El → Value
  | [] => .iface 143 (.agg #[])
  | [e] => .iface 146 (.agg #[.int .i64 e.first, .int .i64 e.second, .int .i64 e.third, .bool e.varies])
  | e :: f :: _ => .iface 149 (.agg #[.int .i64 e.first, .int .i64 e.second, .int .i64 e.third, .bool e.varies, .int .i64 f.first, .int .i64 f.second, .int .i64 f.third, .bool f.varies])

theorem ret_w {x y : Value} (h : x = y) : Ending.returned x = .returned y := by rw [h]

set_option maxRecDepth 100000 in
set_option maxHeartbeats 2000000 in
theorem weight_ctl (r : Int) (h0 : 0 ≤ r) (h : r ≤ 31 ∨ r = 127) (w : World) :
    Calls Tryz.prog 96 #[.int .i64 r] w fun e w' => e = .returned (wtV (base r)) ∧ Below w.heap.size w w' := by
  rw [base_ctl h0 h]
  unfold wtV
  by_cases h1 : r ≤ 31
  · clear h
    go_enter Tryz.func96, Tryz.ntmps96
    go_wp2
    go_ret
    exact ⟨rfl, Below.refl _ _⟩
  · have h2 : r = 127 := by omega
    subst h2
    clear h h0 h1
    go_enter Tryz.func96, Tryz.ntmps96
    go_wp2
    go_ret
    exact ⟨rfl, Below.refl _ _⟩

set_option maxRecDepth 100000 in
set_option maxHeartbeats 2000000 in
theorem weight_vs (r : Int) (i : Nat) (h : placeIn vsl r = some i) (hr : r ∈ vsl) (w : World) :
    Calls Tryz.prog 96 #[.int .i64 r] w fun e w' => e = .returned (wtV (base r)) ∧ Below w.heap.size w w' := by
  obtain ⟨b0, b1, _, _, _⟩ := vsl_bd r hr
  have hi : i < 9 := by unfold placeIn at h; exact (List.findIdx?_eq_some_iff_getElem.1 h).1
  have I := fun w => idxRune_any r (by omega) (by omega) (by omega) w
  have e : idxV r = (i : Int) := by unfold idxV; rw [h]
  rw [e] at I
  rw [base_vs h]
  unfold wtV
  have h1 : ¬ r ≤ 31 := by omega
  have h2 : (r == 127) = false := by simp; omega
  have HC : Hid ((i : Int) + 1 = 1 + (i : Int)) := by show _ = _; omega
  clear h hr e
  go_enter Tryz.func96, Tryz.ntmps96
  go_wp2_with fail
  refine (I _).mono ?_
  rintro e w1 ⟨rfl, b1⟩
  clear I
  go_wp2
  go_ret
  exact ⟨ret_w (by rw [HC.out]; rfl), b1⟩

set_option maxRecDepth 100000 in
set_option maxHeartbeats 2000000 in
theorem weight_digit (r : Int) (h : 48 ≤ r ∧ r ≤ 57) (w : World) :
    Calls Tryz.prog 96 #[.int .i64 r] w fun e w' => e = .returned (wtV (base r)) ∧ Below w.heap.size w w' := by
  have I := fun w => idxRune_any r (by omega) (by omega) (by omega) w
  have P := fun n w => plainElem_any n w
  have e : idxV r = -1 := by unfold idxV; rw [place_out fun c => (vsl_bd r c).2.2.1 h]
  rw [e] at I
  rw [base_digit h]
  unfold wtV
  obtain ⟨h1, h2⟩ := h
  have h3 : ¬ r ≤ 31 := by omega
  have h4 : (r == 127) = false := by simp; omega
  have HC : Hid (2000 + (r - 48) * 100 = 2000 + 100 * (r - 48)) := by show _ = _; omega
  clear e
  go_enter Tryz.func96, Tryz.ntmps96
  go_wp2_with fail
  refine (I _).mono ?_
  rintro e w1 ⟨rfl, b1⟩
  clear I
  go_wp2_with fail
  refine (P _ _).mono ?_
  rintro e w2 ⟨rfl, b2⟩
  clear P
  go_wp2
  go_ret
  exact ⟨ret_w (by rw [HC.out]; rfl), b1.trans (b2.mono b1.size)⟩

set_option maxRecDepth 100000 in
set_option maxHeartbeats 2000000 in
theorem weight_small (r : Int) (h : 97 ≤ r ∧ r ≤ 122) (w : World) :
    Calls Tryz.prog 96 #[.int .i64 r] w fun e w' => e = .returned (wtV (base r)) ∧ Below w.heap.size w w' := by
  have I := fun w => idxRune_any r (by omega) (by omega) (by omega) w
  have P := fun n w => plainElem_any n w
  have e : idxV r = -1 := by unfold idxV; rw [place_out fun c => (vsl_bd r c).2.2.2.1 h]
  rw [e] at I
  rw [base_small h]
  unfold wtV
  obtain ⟨h1, h2⟩ := h
  have h3 : ¬ r ≤ 31 := by omega
  have h4 : (r == 127) = false := by simp; omega
  have h5 : ¬ r ≤ 57 := by omega
  have HC : Hid (4000 + (r - 97) * 200 = 4000 + 200 * (r - 97)) := by show _ = _; omega
  clear e
  go_enter Tryz.func96, Tryz.ntmps96
  go_wp2_with fail
  refine (I _).mono ?_
  rintro e w1 ⟨rfl, b1⟩
  clear I
  go_wp2_with fail
  refine (P _ _).mono ?_
  rintro e w2 ⟨rfl, b2⟩
  clear P
  go_wp2
  go_ret
  exact ⟨ret_w (by rw [HC.out]; rfl), b1.trans (b2.mono b1.size)⟩

set_option maxRecDepth 100000 in
set_option maxHeartbeats 2000000 in
theorem weight_cap (r : Int) (h : 65 ≤ r ∧ r ≤ 90) (w : World) :
    Calls Tryz.prog 96 #[.int .i64 r] w fun e w' => e = .returned (wtV (base r)) ∧ Below w.heap.size w w' := by
  have I := fun w => idxRune_any r (by omega) (by omega) (by omega) w
  have P := fun n w => plainElem_any n w
  have e : idxV r = -1 := by unfold idxV; rw [place_out fun c => (vsl_bd r c).2.2.2.2 h]
  rw [e] at I
  rw [base_cap h]
  unfold wtV
  obtain ⟨h1, h2⟩ := h
  have h3 : ¬ r ≤ 31 := by omega
  have h4 : (r == 127) = false := by simp; omega
  have h5 : ¬ r ≤ 57 := by omega
  have h6 : ¬ 97 ≤ r := by omega
  have HC : Hid (4000 + (r - 65) * 200 = 4000 + 200 * (r - 65)) := by show _ = _; omega
  clear e
  go_enter Tryz.func96, Tryz.ntmps96
  go_wp2_with fail
  refine (I _).mono ?_
  rintro e w1 ⟨rfl, b1⟩
  clear I
  go_wp2_with fail
  refine (P _ _).mono ?_
  rintro e w2 ⟨rfl, b2⟩
  clear P
  have b3 := b1.trans (b2.mono b1.size)
  go_wp2
  go_ret
  exact ⟨ret_w (by rw [HC.out]; rfl), b3.alloc b3.size _⟩

theorem mkl_at (k : Nat) (hk : k < 15) : mkl[k]? = some (at0 (marksT.getD k []) 0) := by
  iterate 15 (rcases k with _ | k; · rfl)
  omega

set_option maxRecDepth 100000 in
set_option maxHeartbeats 4000000 in
theorem weight_far (r : Int) (h0 : 0 ≤ r) (hr1 : r ≤ 1114111) (hs : ¬ (55296 ≤ r ∧ r ≤ 57343)) (hv : placeIn vsl r = none) (h1 : ¬ (r ≤ 31 ∨ r = 127)) (h2 : ¬ (48 ≤ r ∧ r ≤ 57)) (h3 : ¬ (97 ≤ r ∧ r ≤ 122)) (h4 : ¬ (65 ≤ r ∧ r ≤ 90)) (w : World) (hm : Held w 0 marksF) :
    Calls Tryz.prog 96 #[.int .i64 r] w fun e w' => e = .returned (wtV (base r)) ∧ Below w.heap.size w w' := by
  have I := fun w => idxRune_any r h0 hr1 hs w
  have P := fun n w => plainElem_any n w
  have e : idxV r = -1 := by unfold idxV; rw [hv]
  rw [e] at I
  have B2 : Hid (placeIn mkl r = none → base r = [⟨60000 + r / 32768, 32, 2, false⟩, ⟨32768 + r % 32768, 0, 0, false⟩]) := fun h => base_two hv h h1 h2 h3 h4
  have BM : Hid (∀ i, placeIn mkl r = some i → base r = [⟨0, 40 + (i : Int), 2, false⟩]) := fun i h => base_mk hv h
  have c1 : ¬ r ≤ 31 := fun c => h1 (.inl c)
  have c2 : (r == 127) = false := by simp; omega
  have cs : r < 48 ∨ (57 < r ∧ r < 65) ∨ (90 < r ∧ r < 97) ∨ 122 < r := by omega
  have hq : Int.tdiv r 32768 = r / 32768 := Int.tdiv_eq_ediv_of_nonneg h0
  have hp : Int.tmod r 32768 = r % 32768 := Int.tmod_eq_emod_of_nonneg h0
  clear e h1 hv hs h2 h3 h4
  rcases cs with d | ⟨d, d'⟩ | ⟨d, d'⟩ | d
  all_goals
    go_enter Tryz.func96, Tryz.ntmps96
    go_wp2_with fail
    refine (I _).mono ?_
    rintro e w1 ⟨rfl, b1⟩
    clear I
    obtain ⟨t, fr, hh0⟩ := hm.below b1 hm.lt
    have hh : w1.heap[0]? = some (.cells marksA t fr) := hh0
    clear hh0 hm
    go_wp2_with (refine wpList_load_row rfl 120 (.global 0) rfl 0 rfl t marksA fr _ hh Tryz.underlying120 rfl (by kernel_rfl) ?_)
    clear hh
    go_loopw [67] (fun i wr => ∃ k : Nat, k ≤ 15 ∧ i = .int .i64 k ∧ Hid (NotYet mkl r k) ∧ Below w.heap.size w wr) (fun i _ => 15 - (intOf i).toNat)
    case atStart => exact ⟨0, Nat.zero_le _, rfl, fun j x hj => by omega, b1⟩
    case round =>
      obtain ⟨k, hk, rfl, HN, hb⟩ := hrel
      by_cases hlt : k < 15
      · have hi := fun w => marks_index k hlt w
        have HX : Hid (mkl[k]? = some (at0 (marksT.getD k []) 0)) := mkl_at k hlt
        generalize at0 (marksT.getD k []) 0 = a at *
        generalize at0 (marksT.getD k []) 1 = b at *
        have hk8 : (k : Int) < 15 := by omega
        by_cases e : a = r
        · subst e
          have HR : Hid (base a = [⟨0, 40 + (k : Int), 2, false⟩]) := BM.out k (place_hit HN.out HX.out)
          clear HN HX B2 BM P
          go_wp2
          go_ret
          rw [HR.out]
          exact ⟨rfl, hb.alloc hb.size _⟩
        · have e2 : (a == r) = false := by simpa using e
          have HN2 : Hid (NotYet mkl r (k + 1)) := HN.out.succ HX.out e
          clear e HN HX B2 BM P
          go_wp2
          exact ⟨⟨k + 1, by omega, by go_num, HN2, hb.alloc hb.size _⟩, by simp [intOf]; omega⟩
      · have HR : Hid (base r = [⟨60000 + r / 32768, 32, 2, false⟩, ⟨32768 + r % 32768, 0, 0, false⟩]) := B2.out (place_none HN.out (by show 15 ≤ k; omega))
        clear HN B2 BM
        go_wp2_with fail
        refine (P _ _).mono ?_
        rintro e w2 ⟨rfl, b2⟩
        clear P
        go_wp2
        go_ret
        rw [HR.out]
        exact ⟨rfl, hb.trans (b2.mono hb.size)⟩

theorem weight_any (r : Int) (h0 : 0 ≤ r) (h1 : r ≤ 1114111) (hs : ¬ (55296 ≤ r ∧ r ≤ 57343)) (w : World) (hm : Held w 0 marksF) :
    Calls Tryz.prog 96 #[.int .i64 r] w fun e w' => e = .returned (wtV (base r)) ∧ Below w.heap.size w w' := by
  by_cases c : r ≤ 31 ∨ r = 127
  · exact weight_ctl r h0 c w
  · by_cases v : r ∈ vsl
    · obtain ⟨i, hi, _⟩ := place_in v
      exact weight_vs r i hi v w
    · by_cases d : 48 ≤ r ∧ r ≤ 57
      · exact weight_digit r d w
      · by_cases s : 97 ≤ r ∧ r ≤ 122
        · exact weight_small r s w
        · by_cases u : 65 ≤ r ∧ r ≤ 90
          · exact weight_cap r u w
          · exact weight_far r h0 h1 hs (place_out v) c d s u w hm
end Go.Proofs.YtinjldagfhbioaaGreatDoor

namespace Go.Proofs.YtinjldagfhbioaaGreatDoor
open Go.RowKit

theorem base_cases (r : Int) : base r = [] ∨ (∃ e, base r = [e]) ∨ ∃ e f, base r = [e, f] := by
  have := base_len r
  match h : base r with
  | [] => exact .inl rfl
  | [e] => exact .inr (.inl ⟨e, rfl⟩)
  | [e, f] => exact .inr (.inr ⟨e, f, rfl⟩)
  | _ :: _ :: _ :: _ => rw [h] at this; simp at this

theorem base_first {r : Int} {e : El} (h : base r = [e]) : 0 ≤ e.first := by
  unfold base at h
  split at h
  · cases h; simp only; omega
  · split at h
    · cases h; simp
    · unfold baseRest at h
      split at h
      · cases h
      · split at h
        · cases h; simp only; omega
        · split at h
          · cases h; simp only; omega
          · split at h
            · cases h; simp only; omega
            · cases h

theorem one3_pos {e : El} (h : 0 < e.first) : one3 [e] = some e := if_neg (by omega)
theorem one3_zero {e : El} (h : 0 ≤ e.first) (h2 : ¬ 0 < e.first) : one3 [e] = none := if_pos (by omega)

/-- The result's block, still zero. -/
def Zel (u : World) (b : Nat) : Prop := u.heap[b]? = some (.cells #[.int .i64 0, .int .i64 0, .int .i64 0, .bool false] 72)
theorem Zel.facts {u : World} {b : Nat} (h : Zel u b) : b < u.heap.size ∧ (u.cell? ⟨b, 0, none⟩ = some (.int .i64 0) ∧ u.cell? ⟨b, 1, none⟩ = some (.int .i64 0) ∧ u.cell? ⟨b, 2, none⟩ = some (.int .i64 0) ∧ u.cell? ⟨b, 3, none⟩ = some (.bool false)) ∧ ∀ j, u.frozen? ⟨b, j, none⟩ = false :=
  ⟨(Array.getElem?_eq_some_iff.1 h).1, ⟨cell_of_row _ _ 0 _ _ _ h, cell_of_row _ _ 1 _ _ _ h, cell_of_row _ _ 2 _ _ _ h, cell_of_row _ _ 3 _ _ _ h⟩, fun j => by simp [World.frozen?, show u.heap[b]? = _ from h]⟩
theorem Zel.below {u u' : World} {b : Nat} (h : Zel u b) (hb : Below u.heap.size u u') : Zel u' b := (hb.block _ h.facts.1).trans h

theorem below_res1 {w wr : World} {b : Nat} (h : Below w.heap.size w wr) (hb : w.heap.size ≤ b) (x y z t : Value) : Below w.heap.size w ((((wr.setCell ⟨b, 0, none⟩ x).setCell ⟨b, 1, none⟩ y).setCell ⟨b, 2, none⟩ z).setCell ⟨b, 3, none⟩ t) :=
  (((h.setCell hb _).setCell hb _).setCell hb _).setCell hb _

theorem below_res1a {w wr : World} (h : Below w.heap.size w wr) (x y z t : Value) (o : Obj) : Below w.heap.size w (((((wr.setCell ⟨w.heap.size, 0, none⟩ x).setCell ⟨w.heap.size, 1, none⟩ y).setCell ⟨w.heap.size, 2, none⟩ z).setCell ⟨w.heap.size, 3, none⟩ t).alloc o) :=
  (below_res1 h (Nat.le_refl _) x y z t).alloc (below_res1 h (Nat.le_refl _) x y z t).size _
end Go.Proofs.YtinjldagfhbioaaGreatDoor

namespace Go.Proofs.YtinjldagfhbioaaGreatDoor
open Go.RowKit

theorem entAll_take (xs : List Value) (es : List Ent) (k : Nat) : entAll (xs.take k) (es.take k) = (entAll xs es).take (k * 5) := by
  induction k generalizing xs es with
  | zero => simp [entAll]
  | succ k ih =>
    match xs, es with
    | [], _ => simp [entAll]
    | x :: xs, [] => simp [entAll]
    | x :: xs, e :: es =>
      show entC x e.el ++ entAll (xs.take k) (es.take k) = (entC x e.el ++ entAll xs es).take ((k + 1) * 5)
      have e1 : ((entC x e.el).take ((k + 1) * 5)) = entC x e.el := List.take_of_length_le (by show 5 ≤ _; omega)
      have e2 : (k + 1) * 5 - (entC x e.el).length = k * 5 := by show (k + 1) * 5 - 5 = _; omega
      rw [ih xs es, List.take_append, e1, e2]

theorem below_alloc_any (w : World) (o : Obj) : Below w.heap.size w (w.alloc o) := (Below.refl _ _).alloc (Nat.le_refl _) _

def ERel (w : World) (es : List Ent) (l : List Int) (i : Value) (wr : World) : Prop := ∃ k : Nat, k ≤ es.length ∧ i = .int .i64 k ∧ NoEnt es l k ∧ Zel wr w.heap.size ∧ Below w.heap.size w wr

set_option maxRecDepth 100000 in
set_option maxHeartbeats 4000000 in
theorem entry_row (w : World) (B B' g cap : Nat) (es : List Ent) (vl : Value) (l : List Int) (hE : Ents w B (.slice (some ⟨g, 0, none⟩) es.length cap) es) (hL : Ints w B' vl l) (hn : es.length ≤ 1048576) (hl : l.length ≤ 1048576) (hr : ∀ e ∈ es, e.runes.length ≤ 1048576) :
    Calls Tryz.prog 88 #[.slice (some ⟨g, 0, none⟩) es.length cap, vl] w fun e w' => e = .returned (elRes (entOf es l)) ∧ Below w.heap.size w w' := by
  go_enter Tryz.func88, Tryz.ntmps88
  go_wp2
  go_loopw [10] (fun i wr => ERel w es l i wr) (fun i _ => es.length - (intOf i).toNat)
  case atStart => exact ⟨0, Nat.zero_le _, rfl, fun j e hj => by omega, heap_alloc_new _ _, (Below.refl _ _).alloc (Nat.le_refl _) _⟩
  case round =>
    obtain ⟨k, hk, rfl, HN0, hz, hb⟩ := hrel
    have HN : Hid (NoEnt es l k) := HN0
    clear HN0
    by_cases hlt : k < es.length
    · obtain ⟨e, he⟩ : ∃ e, es[k]? = some e := ⟨_, List.getElem?_eq_getElem hlt⟩
      obtain ⟨x, hI, a0, a1, a2, a3, a4⟩ := (hE.below hb).cells k e he
      obtain ⟨xa, xn, xc, rfl⟩ : ∃ xa xn xc, x = .slice xa xn xc := by
        rcases hI.form with ⟨rfl, _⟩ | ⟨_, _, rfl, _, _⟩
        · exact ⟨_, _, _, rfl⟩
        · exact ⟨_, _, _, rfl⟩
      have hk8 : (k : Int) < (es.length : Int) := by omega
      have hrl := hr e (List.mem_of_getElem? he)
      have hbr := (Below.refl wr.heap.size wr).alloc (Nat.le_refl _) (.cells #[.slice xa xn xc, .int .i64 e.el.first, .int .i64 e.el.second, .int .i64 e.el.third, .bool e.el.varies] 74)
      have hba := hb.trans (hbr.mono hb.size)
      have SM := equal_any hrl hl (hI.below hbr) ((hL.below hb).below hbr)
      have HZ : Hid (Zel _ _) := hz.below hbr
      have hlt3 := hz.facts.1
      have HE : Hid _ := he
      clear he hI hE hL hr hz hbr
      go_wp2_with fail
      refine SM.mono ?_
      rintro e' w2 ⟨rfl, n2, rfl⟩
      clear SM a0 a1 a2 a3 a4
      by_cases c : e.runes = l
      · have HA : Hid (entOf es l = some e.el) := entOf_hit HN.out HE.out c
        have c' : decide (e.runes = l) = true := decide_eq_true c
        obtain ⟨hlt2, ⟨q0, q1, q2, q3⟩, f0⟩ := HZ.out.facts
        have hsz := hb.size
        clear HN HE c HZ
        go_wp2
        refine bodyPost_ret (v := .tuple #[.agg #[.int .i64 e.el.first, .int .i64 e.el.second, .int .i64 e.el.third, .bool e.el.varies], .bool true]) ?_ rfl ⟨ret_e HA.out, below_res1 (below_drewN hba n2) (Nat.le_refl _) _ _ _ _⟩
        rw [results_cell_tmp rfl]
        go_simp
      · have HN2 : Hid (NoEnt es l (k + 1)) := HN.out.succ HE.out c
        have c' : decide (e.runes = l) = false := decide_eq_false c
        clear HN HE c
        go_wp2
        exact ⟨⟨k + 1, by omega, by go_num, HN2.out, HZ.out, below_drewN hba n2⟩, by simp [intOf]; omega⟩
    · have HA : Hid (entOf es l = none) := entOf_none HN.out (by omega)
      obtain ⟨hlt2, ⟨q0, q1, q2, q3⟩, f0⟩ := hz.facts
      clear HN hE hr hz
      go_wp2
      refine bodyPost_ret (v := .tuple #[.agg #[.int .i64 0, .int .i64 0, .int .i64 0, .bool false], .bool false]) ?_ rfl ⟨ret_e0 HA.out, below_res1 hb (Nat.le_refl _) _ _ _ _⟩
      rw [results_cell_tmp rfl]
      go_simp

set_option maxRecDepth 100000 in
set_option maxHeartbeats 4000000 in
theorem entry_nil (w : World) (vl : Value) (l : List Int) :
    Calls Tryz.prog 88 #[.slice none 0 0, vl] w fun e w' => e = .returned (elRes (entOf [] l)) ∧ Below w.heap.size w w' := by
  have HA : Hid (entOf [] l = none) := rfl
  have hz : Zel (w.alloc (.cells #[.int .i64 0, .int .i64 0, .int .i64 0, .bool false] 72)) w.heap.size := heap_alloc_new _ _
  obtain ⟨hlt2, ⟨q0, q1, q2, q3⟩, f0⟩ := hz.facts
  clear hz
  go_enter Tryz.func88, Tryz.ntmps88
  go_wp2
  go_loop [10] (fun i => i = .int .i64 0) (fun _ => 0)
  case atStart => rfl
  case round =>
    subst hrel
    go_wp2
    refine bodyPost_ret (v := .tuple #[.agg #[.int .i64 0, .int .i64 0, .int .i64 0, .bool false], .bool false]) ?_ rfl ⟨ret_e0 HA.out, ?_⟩
    · rw [results_cell_tmp rfl]
      go_simp
    · exact below_alloc_any w _

theorem entry_any {w : World} {B B' : Nat} {v vl : Value} {es : List Ent} {l : List Int} (hE : Ents w B v es) (hL : Ints w B' vl l) (hn : es.length ≤ 1048576) (hl : l.length ≤ 1048576) (hr : ∀ e ∈ es, e.runes.length ≤ 1048576) :
    Calls Tryz.prog 88 #[v, vl] w fun e w' => e = .returned (elRes (entOf es l)) ∧ Below w.heap.size w w' := by
  rcases hE.form with ⟨rfl, rfl⟩ | ⟨g, cap, rfl, _, _, _, _⟩
  · exact entry_nil w vl l
  · exact entry_row w B B' g cap es vl l hE hL hn hl hr

/-- The first entries of a row are a row. -/
theorem Ents.take {w : World} {B g cap : Nat} {es : List Ent} (h : Ents w B (.slice (some ⟨g, 0, none⟩) es.length cap) es) (k : Nat) (hk : k ≤ es.length) : Ents w B (.slice (some ⟨g, 0, none⟩) k cap) (es.take k) := by
  obtain ⟨xs, hl, ⟨h1, h2⟩, h3⟩ := h
  have hlk : (es.take k).length = k := by rw [List.length_take]; omega
  refine ⟨xs.take k, by rw [List.length_take, List.length_take, hl], ?_, fun i e he => ?_⟩
  · have hcut : entAll (xs.take k) (es.take k) = (entAll xs es).take (k * 5) := entAll_take xs es k
    rcases h2 with ⟨a, b⟩ | ⟨g', cap', cur, a, b, c, d, e, f, f2⟩
    · cases a
    · refine ⟨by rw [entAll_len _ _ (by rw [List.length_take, List.length_take, hl])], ?_⟩
      rw [hlk]
      injection a with a1 a2 a3
      injection a1 with a4
      injection a4 with a5
      subst a5
      subst a3
      refine .inr ⟨g, cap, cur, rfl, b, c, by omega, e, f, ?_⟩
      rw [hcut, ← f2, List.take_take, Nat.min_eq_left (Nat.mul_le_mul_right 5 hk)]
  · have hik : i < k := by
      have := (List.getElem?_eq_some_iff.1 he).1
      omega
    rw [List.getElem?_take_of_lt hik] at he
    obtain ⟨x, hx, hI⟩ := h3 i e he
    exact ⟨x, by rw [List.getElem?_take_of_lt hik]; exact hx, hI⟩
end Go.Proofs.YtinjldagfhbioaaGreatDoor

namespace Go.Proofs.YtinjldagfhbioaaGreatDoor
open Go.RowKit

/-- A list of ints that lies somewhere. -/
def RowAt (w : World) (v : Value) (l : List Int) : Prop :=
  (∃ a c, v = .slice a 0 c ∧ l = []) ∨ ∃ g f c, v = .slice (some ⟨g, f, none⟩) l.length c ∧ g < w.heap.size ∧ ∀ j x, l[j]? = some x → w.cell? ⟨g, f + j, none⟩ = some (.int .i64 x)

theorem RowAt.below {w w' : World} {v : Value} {l : List Int} (h : RowAt w v l) (hb : Below w.heap.size w w') : RowAt w' v l := by
  rcases h with h | ⟨g, f, c, h1, h2, h3⟩
  · exact .inl h
  · exact .inr ⟨g, f, c, h1, Nat.lt_of_lt_of_le h2 hb.size, fun j x hx => by rw [hb.cell h2]; exact h3 j x hx⟩

theorem Ints.rowAt {w : World} {B : Nat} {v : Value} {l : List Int} (h : Ints w B v l) : RowAt w v l := by
  rcases h.form with ⟨rfl, rfl⟩ | ⟨g, cap, rfl, _, _⟩
  · exact .inl ⟨_, _, rfl, rfl⟩
  · refine .inr ⟨g, 0, cap, rfl, (World.ownsRow.lt h g rfl).2, fun j x hx => ?_⟩
    have hj := (List.getElem?_eq_some_iff.1 hx).1
    rw [Nat.zero_add, h.cell j hj, hx]
    rfl

theorem RowAt.slice {w : World} {v : Value} {l : List Int} (h : RowAt w v l) : ∃ a c, v = .slice a l.length c := by
  rcases h with ⟨a, c, rfl, rfl⟩ | ⟨g, f, c, rfl, _, _⟩
  · exact ⟨_, _, rfl⟩
  · exact ⟨_, _, rfl⟩

set_option maxRecDepth 100000 in
set_option maxHeartbeats 1000000 in
theorem equal_at (w : World) (g g' f cap cap' n : Nat) (za zb : List Int) (ha : za.length = n) (hb : zb.length = n) (hz : n ≤ 1048576)
    (h1 : ∀ j, j < n → w.cell? ⟨g, j, none⟩ = some (.int .i64 (za[j]?.getD 0)))
    (h2 : ∀ j, j < n → w.cell? ⟨g', f + j, none⟩ = some (.int .i64 (zb[j]?.getD 0))) :
    Calls Tryz.prog 24 #[.slice (some ⟨g, 0, none⟩) n cap, .slice (some ⟨g', f, none⟩) n cap'] w fun e w' => e = .returned (.bool (decide (za = zb))) ∧ ∃ n, w' = w.drewN n := by
  go_enter Tryz.func24, Tryz.ntmps24
  go_wp2
  go_loopw [13] (fun i wr => ∃ k nq : Nat, k ≤ n ∧ i = .int .i64 k ∧ wr = w.drewN nq ∧ Hid (EqualTo za zb k)) (fun i _ => n - (intOf i).toNat)
  case atStart => exact ⟨0, 0, Nat.zero_le _, rfl, rfl, fun j hj => by omega⟩
  case round =>
    obtain ⟨k, nq, hk, rfl, rfl, HS⟩ := hrel
    by_cases hlt : k < n
    · obtain ⟨x, hx⟩ : ∃ x, za[k]? = some x := ⟨_, List.getElem?_eq_getElem (by omega)⟩
      obtain ⟨y, hy⟩ : ∃ y, zb[k]? = some y := ⟨_, List.getElem?_eq_getElem (by omega)⟩
      have g1 := h1 k hlt
      have g2 := h2 k hlt
      rw [hx] at g1
      rw [hy] at g2
      have e1 : w.cell? ⟨g, k, none⟩ = some (.int .i64 x) := g1
      have e2 : w.cell? ⟨g', f + k, none⟩ = some (.int .i64 y) := g2
      have hz2 : (k : Int) < (n : Int) := by omega
      have HX : Hid _ := hx
      have HY : Hid _ := hy
      have HA : Hid _ := ha
      have HB : Hid _ := hb
      clear h1 h2 g1 g2 hx hy ha hb
      by_cases e : x = y
      · subst e
        have HS2 : Hid (EqualTo za zb (k + 1)) := by
          intro j hj
          by_cases e : j = k
          · subst e; rw [HX.out, HY.out]
          · exact HS.out j (by omega)
        go_wp2
        go_quiet (fail)
        go_wp2
        exact ⟨⟨k + 1, _, by omega, by go_num, rfl, HS2⟩, by simp [intOf]; omega⟩
      · have hne : (x != y) = true := by simpa using e
        have HN : Hid (false = decide (za = zb)) := by
          refine (decide_eq_false fun h => e ?_).symm
          have := HX.out
          rw [h, HY.out] at this
          exact (Option.some.inj this).symm
        clear e
        go_wp2
        go_quiet (fail)
        go_wp2
        go_ret
        exact ⟨ret_b HN.out, _, World.drewN_drewN _ _ _⟩
    · have HN : Hid (true = decide (za = zb)) := by
        refine (decide_eq_true ?_).symm
        apply List.ext_getElem?
        intro j
        by_cases hj : j < k
        · exact HS.out j hj
        · rw [List.getElem?_eq_none (by omega), List.getElem?_eq_none (by omega)]
      have HA : Hid _ := ha
      have HB : Hid _ := hb
      clear h1 h2 ha hb
      go_wp2
      go_ret
      exact ⟨ret_b HN.out, _, rfl⟩

theorem equal_rowAt {w : World} {B : Nat} {a b : Value} {za zb : List Int} (hza : za.length ≤ 1048576) (ha : Ints w B a za) (hb : RowAt w b zb) :
    Calls Tryz.prog 24 #[a, b] w fun e w' => e = .returned (.bool (decide (za = zb))) ∧ ∃ n, w' = w.drewN n := by
  by_cases h : za.length = zb.length
  · rcases ha.form with ⟨rfl, rfl⟩ | ⟨g, cap, rfl, h1, h2⟩
    · have e : zb = [] := List.eq_nil_of_length_eq_zero (by simpa using h.symm)
      subst e
      obtain ⟨x, c, rfl⟩ := hb.slice
      exact equal_none w _ _ _ _
    · rcases hb with ⟨x, c, rfl, rfl⟩ | ⟨g', f, c, rfl, _, hc⟩
      · have e : za = [] := List.eq_nil_of_length_eq_zero (by simpa using h)
        subst e
        exact equal_none w _ _ _ _
      · rw [← h]
        exact equal_at w g g' f cap c za.length za zb rfl h.symm hza (fun j hj => ha.cell j hj) (fun j hj => by
          have hj2 : j < zb.length := by omega
          rw [hc j zb[j] (List.getElem?_eq_getElem hj2), List.getElem?_eq_getElem hj2]
          rfl)
  · have e : decide (za = zb) = false := decide_eq_false (fun e => h (by rw [e]))
    rw [e]
    obtain ⟨x, c, rfl⟩ := hb.slice
    rcases ha.form with ⟨rfl, rfl⟩ | ⟨g, cap, rfl, h1, h2⟩
    · exact equal_len w _ _ _ _ _ _ (by simpa using h)
    · exact equal_len w _ _ _ _ _ _ h

set_option maxRecDepth 100000 in
set_option maxHeartbeats 4000000 in
theorem entryAt_row (w : World) (B g cap : Nat) (es : List Ent) (vl : Value) (l : List Int) (hE : Ents w B (.slice (some ⟨g, 0, none⟩) es.length cap) es) (hL : RowAt w vl l) (hn : es.length ≤ 1048576) (hr : ∀ e ∈ es, e.runes.length ≤ 1048576) :
    Calls Tryz.prog 88 #[.slice (some ⟨g, 0, none⟩) es.length cap, vl] w fun e w' => e = .returned (elRes (entOf es l)) ∧ Below w.heap.size w w' := by
  go_enter Tryz.func88, Tryz.ntmps88
  go_wp2
  go_loopw [10] (fun i wr => ERel w es l i wr) (fun i _ => es.length - (intOf i).toNat)
  case atStart => exact ⟨0, Nat.zero_le _, rfl, fun j e hj => by omega, heap_alloc_new _ _, (Below.refl _ _).alloc (Nat.le_refl _) _⟩
  case round =>
    obtain ⟨k, hk, rfl, HN0, hz, hb⟩ := hrel
    have HN : Hid (NoEnt es l k) := HN0
    clear HN0
    by_cases hlt : k < es.length
    · obtain ⟨e, he⟩ : ∃ e, es[k]? = some e := ⟨_, List.getElem?_eq_getElem hlt⟩
      obtain ⟨x, hI, a0, a1, a2, a3, a4⟩ := (hE.below hb).cells k e he
      obtain ⟨xa, xn, xc, rfl⟩ : ∃ xa xn xc, x = .slice xa xn xc := by
        rcases hI.form with ⟨rfl, _⟩ | ⟨_, _, rfl, _, _⟩
        · exact ⟨_, _, _, rfl⟩
        · exact ⟨_, _, _, rfl⟩
      have hk8 : (k : Int) < (es.length : Int) := by omega
      have hrl := hr e (List.mem_of_getElem? he)
      have hbr := (Below.refl wr.heap.size wr).alloc (Nat.le_refl _) (.cells #[.slice xa xn xc, .int .i64 e.el.first, .int .i64 e.el.second, .int .i64 e.el.third, .bool e.el.varies] 74)
      have hba := hb.trans (hbr.mono hb.size)
      have SM := equal_rowAt hrl (hI.below hbr) ((hL.below hb).below hbr)
      have HZ : Hid (Zel _ _) := hz.below hbr
      have hlt3 := hz.facts.1
      have HE : Hid _ := he
      clear he hI hE hL hr hz hbr
      go_wp2_with fail
      refine SM.mono ?_
      rintro e' w2 ⟨rfl, n2, rfl⟩
      clear SM a0 a1 a2 a3 a4
      by_cases c : e.runes = l
      · have HA : Hid (entOf es l = some e.el) := entOf_hit HN.out HE.out c
        have c' : decide (e.runes = l) = true := decide_eq_true c
        obtain ⟨hlt2, ⟨q0, q1, q2, q3⟩, f0⟩ := HZ.out.facts
        have hsz := hb.size
        clear HN HE c HZ
        go_wp2
        refine bodyPost_ret (v := .tuple #[.agg #[.int .i64 e.el.first, .int .i64 e.el.second, .int .i64 e.el.third, .bool e.el.varies], .bool true]) ?_ rfl ⟨ret_e HA.out, below_res1 (below_drewN hba n2) (Nat.le_refl _) _ _ _ _⟩
        rw [results_cell_tmp rfl]
        go_simp
      · have HN2 : Hid (NoEnt es l (k + 1)) := HN.out.succ HE.out c
        have c' : decide (e.runes = l) = false := decide_eq_false c
        clear HN HE c
        go_wp2
        exact ⟨⟨k + 1, by omega, by go_num, HN2.out, HZ.out, below_drewN hba n2⟩, by simp [intOf]; omega⟩
    · have HA : Hid (entOf es l = none) := entOf_none HN.out (by omega)
      obtain ⟨hlt2, ⟨q0, q1, q2, q3⟩, f0⟩ := hz.facts
      clear HN hE hr hz
      go_wp2
      refine bodyPost_ret (v := .tuple #[.agg #[.int .i64 0, .int .i64 0, .int .i64 0, .bool false], .bool false]) ?_ rfl ⟨ret_e0 HA.out, below_res1 hb (Nat.le_refl _) _ _ _ _⟩
      rw [results_cell_tmp rfl]
      go_simp

theorem entryAt_any {w : World} {B : Nat} {v vl : Value} {es : List Ent} {l : List Int} (hE : Ents w B v es) (hL : RowAt w vl l) (hn : es.length ≤ 1048576) (hr : ∀ e ∈ es, e.runes.length ≤ 1048576) :
    Calls Tryz.prog 88 #[v, vl] w fun e w' => e = .returned (elRes (entOf es l)) ∧ Below w.heap.size w w' := by
  rcases hE.form with ⟨rfl, rfl⟩ | ⟨g, cap, rfl, _, _, _, _⟩
  · exact entry_nil w vl l
  · exact entryAt_row w B g cap es vl l hE hL hn hr
end Go.Proofs.YtinjldagfhbioaaGreatDoor

namespace Go.Proofs.YtinjldagfhbioaaGreatDoor
open Go.RowKit

def sl15_ren : Go.Shelf.Ren := ⟨fun | 15 => 81 | n => n, fun | 3 => 3 | 4 => 4 | 22 => 35 | n => n, fun | n => n⟩
theorem sl15 : Go.Proofs.Lays2.n15 Tryz.prog sl15_ren := {
  mixed := by kernel_rfl
  f15 := Tryz.func81.trans (congrArg some (by kernel_rfl))
  t3 := Tryz.underlying3
  a3 := Tryz.isAgg3
  z3 := Tryz.sizeOf3
  v3 := Tryz.zeroValue3
  t4 := Tryz.underlying4
  a4 := Tryz.isAgg4
  z4 := Tryz.sizeOf4
  v4 := Tryz.zeroValue4
  t22 := Tryz.underlying35
  a22 := Tryz.isAgg35
  z22 := Tryz.sizeOf35
  v22 := Tryz.zeroValue35
  i3 := info_int }
def sl23_ren : Go.Shelf.Ren := ⟨fun | 23 => 95 | n => n, fun | 0 => 0 | 3 => 3 | 4 => 4 | 22 => 35 | n => n, fun | n => n⟩
theorem sl23 : Go.Proofs.Lays2.n23 Tryz.prog sl23_ren := {
  mixed := by kernel_rfl
  f23 := Tryz.func95.trans (congrArg some (by kernel_rfl))
  t0 := Tryz.underlying0
  a0 := Tryz.isAgg0
  z0 := Tryz.sizeOf0
  v0 := Tryz.zeroValue0
  t3 := Tryz.underlying3
  a3 := Tryz.isAgg3
  z3 := Tryz.sizeOf3
  v3 := Tryz.zeroValue3
  t4 := Tryz.underlying4
  a4 := Tryz.isAgg4
  z4 := Tryz.sizeOf4
  v4 := Tryz.zeroValue4
  t22 := Tryz.underlying35
  a22 := Tryz.isAgg35
  z22 := Tryz.sizeOf35
  v22 := Tryz.zeroValue35
  i3 := info_int }

theorem clone_at (w : World) (g f c : Nat) (l : List Int) (hl : l.length ≤ 1048576) (hc : ∀ j x, l[j]? = some x → w.cell? ⟨g, f + j, none⟩ = some (.int .i64 x)) :
    Calls Tryz.prog 81 #[.slice (some ⟨g, f, none⟩) l.length c] w fun e w' => ∃ v, e = .returned v ∧ Ints w' w.heap.size v l ∧ Below w.heap.size w w' := by
  refine (Go.Proofs.Any.slices_Clone_int sl15 g f l.length c l w (Nat.le_refl _) (by omega) (fun j hj => by
    rw [hc j l[j] (List.getElem?_eq_getElem hj), List.getD_eq_getElem?_getD, List.getElem?_eq_getElem hj]; rfl)).mono ?_
  rintro e w' ⟨v, rfl, h1, _, h2⟩
  rw [List.take_length] at h1
  exact ⟨v, rfl, h1, h2⟩

theorem delete_at (w : World) (g f c k : Nat) (l : List Int) (hk : k < l.length) (hcap : l.length ≤ c) (hm : c ≤ maxLen) (hc : ∀ j x, l[j]? = some x → w.cell? ⟨g, f + j, none⟩ = some (.int .i64 x)) (hf : ∀ j, w.frozen? ⟨g, j, none⟩ = false) :
    Calls Tryz.prog 95 #[.slice (some ⟨g, f, none⟩) l.length c, .int .i64 k, .int .i64 ((k : Int) + 1)] w fun e w' => e = .returned (.slice (some ⟨g, f, none⟩) (l.eraseIdx k).length c) ∧ ∃ q, w' = (w.drewN q).setCells g f ((l.eraseIdx k ++ [0]).map (Value.int .i64)) := by
  have h := Go.Proofs.Any.slices_Delete_int_cells sl23 g f l.length c k (k + 1) l w (Nat.le_refl _) hcap (by unfold maxLen at hm; omega) (by omega) (by omega) (fun j hj => by
    rw [hc j l[j] (List.getElem?_eq_getElem hj), List.getD_eq_getElem?_getD, List.getElem?_eq_getElem hj]; rfl) (fun j _ => hf _)
  have e1 : (((k + 1 : Nat) : Int)) = (k : Int) + 1 := by omega
  rw [e1] at h
  refine h.mono ?_
  rintro e w' ⟨rfl, q, rfl⟩
  refine ⟨?_, q, ?_⟩
  · rw [List.length_eraseIdx_of_lt hk]
    have : l.length - (k + 1 - k) = l.length - 1 := by omega
    rw [this]
  · rw [List.take_length, List.eraseIdx_eq_take_drop_succ]
    have : k + 1 - k = 1 := by omega
    rw [this]
    rfl

set_option maxRecDepth 100000 in
set_option maxHeartbeats 1000000 in
/-- slices.Grow of nothing: an empty list of the call's own. -/
theorem grow_nil (w : World) (n : Nat) (h0 : 0 < n) (hn : n ≤ 1048576) :
    Calls Tryz.prog 97 #[.slice none 0 0, .int .i64 n] w fun e w' => ∃ v, e = .returned v ∧ Ints w' w.heap.size v [] ∧ Below w.heap.size w w' := by
  obtain ⟨i0, hi, hzz, hz1, hz2⟩ := info_parts info_int
  have hn8 : (0 : Int) < (n : Int) := by omega
  go_enter Tryz.func97, Tryz.ntmps97
  go_wp2_with (at_builtin; refine Go.Lib.wpList_append_run _ rfl _ _ 35 3 rfl _ _ rfl rfl _ _ (Go.Lib.run_append_nil_zeros _ 35 3 _ 3 i0 (.int .i64 0) .i64 .i64 Tryz.underlying35 Tryz.underlying3 hi hzz n h0 (by rw [hz1]; decide) (by omega) (by rw [hz2]; omega)) ?_)
  go_ret
  refine ⟨_, rfl, ⟨rfl, .inr ⟨w.heap.size, _, _, rfl, Nat.le_refl _, heap_alloc_new _ _, Nat.zero_le _, grownCap_le_maxLen w n 0 _ (by unfold maxLen; omega), ?_, rfl⟩⟩, ((Below.refl _ _).alloc (Nat.le_refl _) _).drew⟩
  have := grownCap_ge w n 0 3
  rw [Array.size_append, size_zeroCells, size_zeroCells]
  simp
  omega

theorem cells_src {w : World} {g f : Nat} {l : List Int} (hc : ∀ j x, l[j]? = some x → w.cell? ⟨g, f + j, none⟩ = some (.int .i64 x)) : ∀ j u, (l.map (Value.int .i64))[j]? = some u → w.cell? ((⟨g, f, none⟩ : Addr).add j) = some u := by
  intro j u hj
  rw [List.getElem?_map, Option.map_eq_some_iff] at hj
  obtain ⟨x, hx, rfl⟩ := hj
  rw [Addr.add_mid]
  exact hc j x hx

theorem Ints.app {w : World} {B : Nat} {v : Value} {l l' : List Int} {n : Nat} (hn : l.length = n) (h : w.ownsRow B 3 1 v (n + l'.length) (l.map (Value.int .i64) ++ l'.map (Value.int .i64))) : Ints w B v (l ++ l') := by
  unfold Ints
  rw [List.length_append, List.map_append, hn]
  exact h

set_option maxRecDepth 100000 in
set_option maxHeartbeats 2000000 in
theorem concat_two (w : World) (tb g1 f1 c1 g2 f2 c2 : Nat) (l1 l2 : List Int) (hh : w.heap[tb]? = some (.cells #[.slice (some ⟨g1, f1, none⟩) l1.length c1, .slice (some ⟨g2, f2, none⟩) l2.length c2] 35))
    (hg1 : g1 < w.heap.size) (hg2 : g2 < w.heap.size) (h1 : 1 ≤ l1.length) (hl1 : l1.length ≤ 4000) (hl2 : l2.length ≤ 4000)
    (hc1 : ∀ j x, l1[j]? = some x → w.cell? ⟨g1, f1 + j, none⟩ = some (.int .i64 x)) (hc2 : ∀ j x, l2[j]? = some x → w.cell? ⟨g2, f2 + j, none⟩ = some (.int .i64 x)) :
    Calls Tryz.prog 82 #[.slice (some ⟨tb, 0, none⟩) 2 2] w fun e w' => ∃ v, e = .returned v ∧ Ints w' w.heap.size v (l1 ++ l2) ∧ Below w.heap.size w w' := by
  obtain ⟨i0, hi, hzz, hz1, hz2⟩ := info_parts info_int
  have q0 := cell_of_row _ _ 0 _ _ _ hh
  have q1 := cell_of_row _ _ 1 _ _ _ hh
  have hhl : tb < w.heap.size := (Array.getElem?_eq_some_iff.1 hh).1
  have HC1 : Hid _ := hc1
  have HC2 : Hid _ := hc2
  have G := fun u => grow_nil u (l1.length + l2.length) (by omega) (by omega)
  rw [show ((l1.length + l2.length : Nat) : Int) = (l1.length : Int) + (l2.length : Int) by omega] at G
  clear hc1 hc2 hh
  go_enter Tryz.func82, Tryz.ntmps82
  go_wp2
  go_loop [3, 11] (fun s i => (s = .int .i64 0 ∧ i = .int .i64 0) ∨ (s = .int .i64 (l1.length : Int) ∧ i = .int .i64 1) ∨ (s = .int .i64 ((l1.length : Int) + (l2.length : Int)) ∧ i = .int .i64 2)) (fun _ i => 2 - (intOf i).toNat)
  case atStart => exact .inl ⟨rfl, rfl⟩
  case round =>
    rcases hrel with ⟨rfl, rfl⟩ | ⟨rfl, rfl⟩ | ⟨rfl, rfl⟩
    · go_wp2
      exact ⟨.inr (.inl ⟨by go_num, rfl⟩), by simp [intOf]⟩
    · go_wp2
      exact ⟨.inr (.inr ⟨by go_num, rfl⟩), by simp [intOf]⟩
    · go_wp2_with fail
      refine (G _).mono ?_
      rintro e w1 ⟨v1, rfl, i1, b1⟩
      clear G
      have r0 : w1.cell? ⟨tb, 0, none⟩ = _ := (b1.cell hhl).trans q0
      have r1 : w1.cell? ⟨tb, 1, none⟩ = _ := (b1.cell hhl).trans q1
      go_wp2_with fail
      go_loopw [6, 27] (fun v i wr => (i = .int .i64 0 ∧ Ints wr w.heap.size v [] ∧ Below w.heap.size w wr) ∨ (i = .int .i64 1 ∧ Ints wr w.heap.size v l1 ∧ Below w.heap.size w wr) ∨ (i = .int .i64 2 ∧ Ints wr w.heap.size v (l1 ++ l2) ∧ Below w.heap.size w wr)) (fun _ i _ => 2 - (intOf i).toNat)
      case atStart => exact .inl ⟨rfl, i1, b1⟩
      case round =>
        clear i1 b1 r0 r1
        rcases hrel with ⟨rfl, i2, b2⟩ | ⟨rfl, i2, b2⟩ | ⟨rfl, i2, b2⟩
        · have r0 : wr.cell? ⟨tb, 0, none⟩ = _ := (b2.cell hhl).trans q0
          have hsrc := cells_src (w := wr) (fun j x hx => (b2.cell hg1).trans (HC1.out j x hx))
          have hsz := b2.size
          go_wp2_with (at_builtin; refine wpList_append_own _ rfl _ _ 35 rfl w.heap.size 3 i0 (.int .i64 0) 1 8 Tryz.underlying35 hi hzz hz1 hz2 rfl (by decide) _ _ _ rfl i2 ⟨g1, f1, none⟩ l1.length c1 (l1.map (Value.int .i64)) rfl (by simp) hsrc (fun u hu => by obtain ⟨x, _, rfl⟩ := List.mem_map.1 hu; rfl) (by unfold maxLen; simp; omega) (by simp; omega) (by omega) ?_)
          intro v3 w3 ho3 hg3 _
          have i3 : Ints w3 w.heap.size v3 l1 := ho3
          have b3 : Below w.heap.size w w3 := Below.grown b2 hg3 b2.size (fun j hj => (World.ownsRow.lt i2 j hj).1)
          have I3 : Hid (Ints _ _ _ _) := i3
          have B3 : Hid (Below _ _ _) := b3
          clear ho3 hg3 i3 b3 i2 b2 hsrc r0
          go_wp2
          exact ⟨.inr (.inl ⟨rfl, I3.out, B3.out⟩), by simp [intOf]⟩
        · have r1 : wr.cell? ⟨tb, 1, none⟩ = _ := (b2.cell hhl).trans q1
          have hsrc := cells_src (w := wr) (fun j x hx => (b2.cell hg2).trans (HC2.out j x hx))
          have hsz := b2.size
          go_wp2_with (at_builtin; refine wpList_append_own _ rfl _ _ 35 rfl w.heap.size 3 i0 (.int .i64 0) 1 8 Tryz.underlying35 hi hzz hz1 hz2 rfl (by decide) _ _ _ rfl i2 ⟨g2, f2, none⟩ l2.length c2 (l2.map (Value.int .i64)) rfl (by simp) hsrc (fun u hu => by obtain ⟨x, _, rfl⟩ := List.mem_map.1 hu; rfl) (by unfold maxLen; omega) (by omega) (by omega) ?_)
          intro v3 w3 ho3 hg3 _
          have i3 : Ints w3 w.heap.size v3 (l1 ++ l2) := Ints.app rfl ho3
          have b3 : Below w.heap.size w w3 := Below.grown b2 hg3 b2.size (fun j hj => (World.ownsRow.lt i2 j hj).1)
          have I3 : Hid (Ints _ _ _ _) := i3
          have B3 : Hid (Below _ _ _) := b3
          clear ho3 hg3 i3 b3 i2 b2 hsrc r1
          go_wp2
          exact ⟨.inr (.inr ⟨rfl, I3.out, B3.out⟩), by simp [intOf]⟩
        · have I3 : Hid (Ints _ _ _ _) := i2
          have B3 : Hid (Below _ _ _) := b2
          clear i2 b2
          go_wp2
          go_ret
          exact ⟨_, rfl, I3.out, B3.out⟩
end Go.Proofs.YtinjldagfhbioaaGreatDoor

namespace Go.Proofs.YtinjldagfhbioaaGreatDoor
open Go.RowKit

/-- Whether one of these blocks r. -/
def blk (l : List Int) (r : Int) : Bool := l.any fun b => cls b == 0 || decide (cls r ≤ cls b)

theorem freeI_blk (s : List Int × Nat) (r : Int) (h : 0 < s.2) : freeI s r = !blk (s.1.drop s.2) r := by
  unfold freeI blk
  cases hb : (s.1.drop s.2).any fun b => cls b == 0 || decide (cls r ≤ cls b) with
  | false =>
    simp only [Bool.not_false]
    refine decide_eq_true ⟨h, fun b hb2 => ?_⟩
    have := (List.any_eq_false.1 hb) b hb2
    simpa using this
  | true =>
    simp only [Bool.not_true]
    refine decide_eq_false fun c => ?_
    obtain ⟨b, hb1, hb2⟩ := List.any_eq_true.1 hb
    exact c.2 b hb1 (by simpa using hb2)

def BlkTo (l : List Int) (r : Int) (k : Nat) : Prop := ∀ j b, j < k → l[j]? = some b → ¬ (cls b = 0 ∨ cls r ≤ cls b)

theorem blk_hit {l : List Int} {r b : Int} {k : Nat} (hb : l[k]? = some b) (h : cls b = 0 ∨ cls r ≤ cls b) : blk l r = true :=
  List.any_eq_true.2 ⟨b, List.mem_of_getElem? hb, by simpa using h⟩
theorem blk_none {l : List Int} {r : Int} {k : Nat} (h : BlkTo l r k) (hk : ¬ k < l.length) : blk l r = false := by
  refine List.any_eq_false.2 fun b hb => ?_
  obtain ⟨j, hj⟩ := List.mem_iff_getElem?.1 hb
  have := (List.getElem?_eq_some_iff.1 hj).1
  simpa using h j b (by omega) hj
theorem BlkTo.succ {l : List Int} {r b : Int} {k : Nat} (h : BlkTo l r k) (hb : l[k]? = some b) (hn : ¬ (cls b = 0 ∨ cls r ≤ cls b)) : BlkTo l r (k + 1) := by
  intro j c hj hc
  by_cases e : j = k
  · subst e; rw [hb] at hc; cases hc; exact hn
  · exact h j c (by omega) hc

def BRel (w : World) (l : List Int) (r : Int) (i : Value) (wr : World) : Prop := ∃ k : Nat, k ≤ l.length ∧ i = .int .i64 k ∧ BlkTo l r k ∧ Below w.heap.size w wr

set_option maxRecDepth 100000 in
set_option maxHeartbeats 2000000 in
theorem blocked_any (w : World) (g f c : Nat) (l : List Int) (r : Int) (hl : l.length ≤ 1048576) (hg : g < w.heap.size) (hc : ∀ j b, l[j]? = some b → w.cell? ⟨g, f + j, none⟩ = some (.int .i64 b)) (hm : Held w 0 marksF) :
    Calls Tryz.prog 103 #[.slice (some ⟨g, f, none⟩) l.length c, .int .i64 r] w fun e w' => e = .returned (.bool (blk l r)) ∧ Below w.heap.size w w' := by
  have C0 := implClass_any r w hm
  go_enter Tryz.func103, Tryz.ntmps103
  go_wp2_with fail
  refine C0.mono ?_
  rintro e w1 ⟨rfl, hb1⟩
  clear C0
  go_wp2_with fail
  go_loopw [13] (fun i wr => BRel w l r i wr) (fun i _ => l.length - (intOf i).toNat)
  case atStart => exact ⟨0, Nat.zero_le _, rfl, fun j b hj => by omega, hb1⟩
  case round =>
    clear hb1
    obtain ⟨k, hk, rfl, HB0, hb⟩ := hrel
    have HB : Hid (BlkTo l r k) := HB0
    clear HB0
    by_cases hlt : k < l.length
    · obtain ⟨b, hx⟩ : ∃ b, l[k]? = some b := ⟨_, List.getElem?_eq_getElem hlt⟩
      have c1 := hc k b hx
      rw [← hb.cell (p := ⟨g, f + k, none⟩) hg] at c1
      have CC := implClass_any b wr (hm.below hb hm.lt)
      have hk8 : (k : Int) < (l.length : Int) := by omega
      have HX : Hid _ := hx
      clear hx
      go_wp2_with fail
      refine CC.mono ?_
      rintro e w2 ⟨rfl, hb2⟩
      have hbb := hb.trans (hb2.mono hb.size)
      clear CC c1 hb2 hb hc
      by_cases e1 : cls b = 0
      · have HY : Hid (true = blk l r) := (blk_hit HX.out (.inl e1)).symm
        have e1' : (cls b == 0) = true := by simpa using e1
        clear HB HX e1
        go_wp2
        go_ret
        exact ⟨ret_b HY.out, hbb⟩
      · have e1' : (cls b == 0) = false := by simpa using e1
        by_cases e2 : cls r ≤ cls b
        · have HY : Hid (true = blk l r) := (blk_hit HX.out (.inr e2)).symm
          clear HB HX e1
          go_wp2
          go_ret
          exact ⟨ret_b HY.out, hbb⟩
        · have HN : Hid (BlkTo l r (k + 1)) := HB.out.succ HX.out (fun h => h.elim e1 e2)
          have e2' : decide (cls r ≤ cls b) = false := by simpa using e2
          clear HB HX e1 e2
          go_wp2
          exact ⟨⟨k + 1, by omega, by go_num, HN.out, hbb⟩, by simp [intOf]; omega⟩
    · have HY : Hid (false = blk l r) := (blk_none HB.out hlt).symm
      clear HB hc
      go_wp2
      go_ret
      exact ⟨ret_b HY.out, hb⟩

set_option maxRecDepth 100000 in
set_option maxHeartbeats 1000000 in
theorem blocked_none (w : World) (a : Option Addr) (c : Nat) (r : Int) (hm : Held w 0 marksF) :
    Calls Tryz.prog 103 #[.slice a 0 c, .int .i64 r] w fun e w' => e = .returned (.bool false) ∧ Below w.heap.size w w' := by
  have C0 := implClass_any r w hm
  go_enter Tryz.func103, Tryz.ntmps103
  go_wp2_with fail
  refine C0.mono ?_
  rintro e w1 ⟨rfl, hb1⟩
  clear C0
  go_wp2_with fail
  go_loopw [13] (fun i wr => i = .int .i64 0 ∧ Below w.heap.size w wr) (fun _ _ => 0)
  case atStart => exact ⟨rfl, hb1⟩
  case round =>
    clear hb1
    obtain ⟨rfl, hb⟩ := hrel
    go_wp2
    go_ret
    exact ⟨rfl, hb⟩
end Go.Proofs.YtinjldagfhbioaaGreatDoor

namespace Go.Proofs.YtinjldagfhbioaaGreatDoor
open Go.RowKit

/-- None of the first k has class 0. -/
def MarksTo (rest : List Int) (k : Nat) : Prop := ∀ j x, j < k → rest[j]? = some x → cls x ≠ 0

theorem MarksTo.succ {rest : List Int} {k : Nat} {m : Int} (h : MarksTo rest k) (hm : rest[k]? = some m) (hc : cls m ≠ 0) : MarksTo rest (k + 1) := by
  intro j x hj hx
  by_cases e : j = k
  · subst e; rw [hm] at hx; cases hx; exact hc
  · exact h j x (by omega) hx

theorem blk_take {rest : List Int} {k : Nat} {m : Int} (h : MarksTo rest k) : blk (rest.take k) m = blkB rest k (cls m) := by
  unfold blk blkB
  rw [Bool.eq_iff_iff, List.any_eq_true, List.any_eq_true]
  constructor
  · rintro ⟨b, hb, hp⟩
    refine ⟨b, hb, ?_⟩
    obtain ⟨j, hj⟩ := List.mem_iff_getElem?.1 hb
    have hjk : j < k := by
      have := (List.getElem?_eq_some_iff.1 hj).1
      rw [List.length_take] at this
      omega
    rw [List.getElem?_take_of_lt hjk] at hj
    have := h j b hjk hj
    simpa [this] using hp
  · rintro ⟨b, hb, hp⟩
    exact ⟨b, hb, by simp only [Bool.or_eq_true]; exact .inr hp⟩

def ansV (n : Int) : Value := .tuple #[.int .i64 (if n < 0 then 0 else n), .bool (decide (0 ≤ n))]

theorem ret_none {n : Int} (h : n = -1) : Ending.returned (.tuple #[.int .i64 0, .bool false]) = .returned (ansV n) := by subst h; rfl
theorem ret_some {n : Int} {k : Nat} (h : n = (k : Int)) : Ending.returned (.tuple #[.int .i64 (k : Int), .bool true]) = .returned (ansV n) := by
  subst h
  unfold ansV
  rw [if_neg (by omega), decide_eq_true (by omega)]

def MiRel (w : World) (es : List Ent) (run rest : List Int) (ans : Int) (i : Value) (wr : World) : Prop :=
  ∃ k : Nat, k ≤ rest.length ∧ i = .int .i64 k ∧ MarksTo rest k ∧ markFrom es run rest (rest.drop k) k = ans ∧ Below w.heap.size w wr

set_option maxRecDepth 100000 in
set_option maxHeartbeats 8000000 in
theorem markInto_row (w : World) (B g1 f1 c1 g2 f2 c2 : Nat) (ve : Value) (es : List Ent) (run rest : List Int) (hE : Ents w B ve es) (hn : es.length ≤ 1048576) (hr : ∀ e ∈ es, e.runes.length ≤ 1048576) (ht : Tabs3 w)
    (hg1 : g1 < w.heap.size) (hg2 : g2 < w.heap.size) (h1 : 1 ≤ run.length) (hl1 : run.length ≤ 3000) (hl2 : rest.length ≤ 3000) (hcap : rest.length ≤ c2)
    (hc1 : ∀ j x, run[j]? = some x → w.cell? ⟨g1, f1 + j, none⟩ = some (.int .i64 x)) (hc2 : ∀ j x, rest[j]? = some x → w.cell? ⟨g2, f2 + j, none⟩ = some (.int .i64 x)) :
    Calls Tryz.prog 94 #[ve, .slice (some ⟨g1, f1, none⟩) run.length c1, .slice (some ⟨g2, f2, none⟩) rest.length c2] w fun e w' => e = .returned (ansV (markAt es run rest)) ∧ Below w.heap.size w w' := by
  obtain ⟨ans, HANS⟩ : ∃ ans, Hid (markAt es run rest = ans) := ⟨_, rfl⟩
  rw [HANS.out]
  obtain ⟨va, vn, vc, rfl⟩ : ∃ a n c, ve = .slice a n c := by
    rcases hE.form with ⟨rfl, _⟩ | ⟨_, _, rfl, _, _, _, _⟩
    · exact ⟨_, _, _, rfl⟩
    · exact ⟨_, _, _, rfl⟩
  have HC1 : Hid _ := hc1
  have HC2 : Hid _ := hc2
  have HE : Hid (Ents _ _ _ _) := hE
  have HT : Hid (Tabs3 _) := ht
  clear hc1 hc2 hE ht
  go_enter Tryz.func94, Tryz.ntmps94
  go_wp2
  go_loopw [14] (fun i wr => MiRel w es run rest ans i wr) (fun i _ => rest.length - (intOf i).toNat)
  case atStart => exact ⟨0, Nat.zero_le _, rfl, fun j x hj => by omega, by rw [List.drop_zero]; exact HANS.out, Below.refl _ _⟩
  case round =>
    clear HANS
    obtain ⟨k, hk, rfl, hM, hA, hb⟩ := hrel
    have HA : Hid _ := hA
    have HM : Hid (MarksTo _ _) := hM
    clear hA hM
    by_cases hlt : k < rest.length
    · obtain ⟨m, hm⟩ : ∃ m, rest[k]? = some m := ⟨_, List.getElem?_eq_getElem hlt⟩
      have c0 : wr.cell? ⟨g2, f2 + k, none⟩ = some (.int .i64 m) := (hb.cell hg2).trans (HC2.out k m hm)
      have hk8 : (k : Int) < (rest.length : Int) := by omega
      have hkc : k < c2 := by omega
      have HA2 : Hid ((if cls m = 0 then -1 else if blkB rest k (cls m) = false ∧ 0 ≤ atE es (run ++ [m]) then (k : Int) else markFrom es run rest (rest.drop (k + 1)) (k + 1)) = ans) := by
        show _ = _
        rw [← HA.out, int_drop hm]
        rfl
      have HMM : Hid (rest[k]? = some m) := hm
      clear HA hm
      have CL := implClass_any m wr ((HT.out.below hb).1)
      by_cases hc : cls m = 0
      · have HF : Hid (-1 = ans) := by show _ = _; rw [← HA2.out, if_pos hc]
        rw [hc] at CL
        clear HA2
        go_wp2_with fail
        refine CL.mono ?_
        rintro e w3 ⟨rfl, b3⟩
        clear CL c0
        go_wp2
        go_ret2
        exact ⟨ret_none HF.out.symm, hb.trans (b3.mono hb.size)⟩
      · have HA3 : Hid ((if blkB rest k (cls m) = false ∧ 0 ≤ atE es (run ++ [m]) then (k : Int) else markFrom es run rest (rest.drop (k + 1)) (k + 1)) = ans) := by show _ = _; rw [← HA2.out, if_neg hc]
        have hc' : (cls m == 0) = false := by simpa using hc
        have HM2 : Hid (MarksTo rest (k + 1)) := HM.out.succ HMM.out hc
        have HBT : Hid (blk (rest.take k) m = blkB rest k (cls m)) := blk_take HM.out
        clear HA2 HM
        go_wp2_with fail
        refine CL.mono ?_
        rintro e w3 ⟨rfl, b3⟩
        clear CL c0
        have b3' := hb.trans (b3.mono hb.size)
        have hgw3 : g2 < w3.heap.size := Nat.lt_of_lt_of_le hg2 b3'.size
        have BL := blocked_any w3 g2 f2 c2 (rest.take k) m (by rw [List.length_take]; omega) hgw3 (fun j x hx => by
          have hjk : j < k := by
            have := (List.getElem?_eq_some_iff.1 hx).1
            rw [List.length_take] at this
            omega
          rw [List.getElem?_take_of_lt hjk] at hx
          exact (b3'.cell hg2).trans (HC2.out j x hx)) ((HT.out.below b3').1)
        rw [HBT.out, show (rest.take k).length = k by rw [List.length_take]; omega] at BL
        have hkc2 : k ≤ c2 := by omega
        clear HBT b3 hb
        generalize hbb : blkB rest k (cls m) = bb at *
        cases bb
        · go_wp2_with fail
          refine BL.mono ?_
          rintro e w4 ⟨rfl, b4⟩
          have b4' := b3'.trans (b4.mono b3'.size)
          clear BL b4 b3' hgw3
          have hsz4 := b4'.size
          have hx0 : ∀ o : Obj, Below w.heap.size w (w4.alloc o) := fun o => b4'.alloc b4'.size o
          have CC := fun (tb : Nat) (u : World) (htb : tb = w4.heap.size) (hu : u = w4.alloc (.cells #[.slice (some ⟨g1, f1, none⟩) run.length c1, .slice (some ⟨g2, f2 + k, none⟩) ([m] : List Int).length (c2 - k)] 35)) => concat_two u tb g1 f1 c1 g2 (f2 + k) (c2 - k) run [m] (by subst htb; rw [hu]; exact heap_alloc_new _ _) (by rw [hu]; simp; omega) (by rw [hu]; simp; omega) h1 (by omega) (by simp) (fun j x hx => by rw [hu]; exact ((hx0 _).cell hg1).trans (HC1.out j x hx)) (fun j x hx => by
            have hj0 : j = 0 := by
              have := (List.getElem?_eq_some_iff.1 hx).1
              simp at this
              omega
            subst hj0
            simp at hx
            subst hx
            rw [hu, Nat.add_zero]
            exact ((hx0 _).cell hg2).trans (HC2.out k m HMM.out))
          have CC1 := CC w4.heap.size _ rfl rfl
          clear CC
          go_wp2_with fail
          refine CC1.mono ?_
          rintro e w5 ⟨v5, rfl, i5, b5⟩
          have b5' : Below w.heap.size w w5 := (hx0 _).trans (b5.mono (hx0 _).size)
          clear CC1 b5 b4' hx0
          have EN := entryAt_any (HE.out.below b5') i5.rowAt hn hr
          obtain ⟨o, ho⟩ : ∃ o, entOf es (run ++ [m]) = o := ⟨_, rfl⟩
          have HO : Hid (o.isSome = decide (0 ≤ atE es (run ++ [m]))) := by show _ = _; rw [← ho]; exact entOf_some
          rw [ho] at EN
          clear ho i5
          unfold elRes elV at EN
          generalize elOf o = eo at *
          generalize o.isSome = ob at *
          go_wp2_with fail
          refine EN.mono ?_
          rintro e w6 ⟨rfl, b6⟩
          have b6' := b5'.trans (b6.mono b5'.size)
          clear EN b6 b5'
          cases ob
          · have hneg : ¬ 0 ≤ atE es (run ++ [m]) := of_decide_eq_false HO.out.symm
            have HF : Hid (markFrom es run rest (rest.drop (k + 1)) (k + 1) = ans) := by show _ = _; rw [← HA3.out, if_neg (fun c => hneg c.2)]
            clear HA3 HO hneg
            go_wp2
            exact ⟨⟨k + 1, hlt, by go_num, HM2.out, HF.out, b6'.alloc b6'.size _⟩, by simp [intOf]; omega⟩
          · have hpos : 0 ≤ atE es (run ++ [m]) := of_decide_eq_true HO.out.symm
            have HF : Hid ((k : Int) = ans) := by show _ = _; rw [← HA3.out, if_pos (by simp [hpos])]
            clear HA3 HO hpos
            go_wp2
            go_ret2
            exact ⟨ret_some HF.out.symm, b6'.alloc b6'.size _⟩
        · have HF : Hid (markFrom es run rest (rest.drop (k + 1)) (k + 1) = ans) := by show _ = _; rw [← HA3.out, if_neg (fun c => by cases c.1)]
          clear HA3
          go_wp2_with fail
          refine BL.mono ?_
          rintro e w4 ⟨rfl, b4⟩
          clear BL
          go_wp2
          exact ⟨⟨k + 1, hlt, by go_num, HM2.out, HF.out, b3'.trans (b4.mono b3'.size)⟩, by simp [intOf]; omega⟩
    · have hk3 : k = rest.length := by omega
      subst hk3
      have HF : Hid (-1 = ans) := by show _ = _; rw [← HA.out, List.drop_length]; rfl
      clear HA
      go_wp2
      go_ret2
      exact ⟨ret_none HF.out.symm, hb⟩

set_option maxRecDepth 100000 in
set_option maxHeartbeats 1000000 in
theorem markInto_nil (w : World) (ve vr : Value) (a : Option Addr) (c : Nat) (es : List Ent) (run : List Int) : Calls Tryz.prog 94 #[ve, vr, .slice a 0 c] w fun e w' => e = .returned (ansV (markAt es run [])) ∧ Below w.heap.size w w' := by
  have HF : Hid (markAt es run [] = -1) := rfl
  go_enter Tryz.func94, Tryz.ntmps94
  go_wp2
  go_loopw [14] (fun i wr => i = .int .i64 0 ∧ wr = w) (fun _ _ => 0)
  case atStart => exact ⟨rfl, rfl⟩
  case round =>
    obtain ⟨rfl, rfl⟩ := hrel
    go_wp2
    go_ret2
    exact ⟨ret_none HF.out, Below.refl _ _⟩
end Go.Proofs.YtinjldagfhbioaaGreatDoor

namespace Go.Proofs.YtinjldagfhbioaaGreatDoor
open Go.RowKit

/-- A list of ints in the midst of a block of the call's own, which may be written into. -/
def MidI (w : World) (B : Nat) (v : Value) (l : List Int) : Prop :=
  (∃ a c, v = .slice a 0 c ∧ l = []) ∨ ∃ g f c cs, v = .slice (some ⟨g, f, none⟩) l.length c ∧ l.length ≤ c ∧ c ≤ maxLen ∧ B ≤ g ∧ w.heap[g]? = some (.cells cs 3) ∧ ∀ j x, l[j]? = some x → w.cell? ⟨g, f + j, none⟩ = some (.int .i64 x)

theorem Ints.midI {w : World} {B : Nat} {v : Value} {l : List Int} (h : Ints w B v l) : MidI w B v l := by
  rcases h.2 with ⟨a, b⟩ | ⟨g, cap, cur, a, b, c, d, e, _⟩
  · exact .inl ⟨_, _, a, by simpa using b⟩
  · subst a
    refine .inr ⟨g, 0, cap, cur, rfl, d, e, b, c, fun j x hx => ?_⟩
    have hj := (List.getElem?_eq_some_iff.1 hx).1
    rw [Nat.zero_add, h.cell j hj, hx]
    rfl

def RfRel (es : List Ent) (l : List Int) (w : World) (i : Value) (wr : World) : Prop :=
  ∃ n : Nat, 1 ≤ n ∧ n ≤ 4 ∧ n ≤ l.length ∧ i = .int .i64 n ∧ (∀ j, n < j → j ≤ 4 → hitN es l j = false) ∧ Below w.heap.size w wr

theorem rowAt_take {w : World} {g f c : Nat} {l : List Int} (n : Nat) (hn : n ≤ l.length) (hg : g < w.heap.size) (hc : ∀ j x, l[j]? = some x → w.cell? ⟨g, f + j, none⟩ = some (.int .i64 x)) : RowAt w (.slice (some ⟨g, f, none⟩) n c) (l.take n) := by
  refine .inr ⟨g, f, c, ?_, hg, fun j x hx => ?_⟩
  · rw [List.length_take, Nat.min_eq_left hn]
  · have hjn : j < n := by
      have := (List.getElem?_eq_some_iff.1 hx).1
      rw [List.length_take] at this
      omega
    rw [List.getElem?_take_of_lt hjn] at hx
    exact hc j x hx

set_option maxRecDepth 100000 in
set_option maxHeartbeats 4000000 in
theorem runAt_any (w : World) (B g f c : Nat) (ve : Value) (es : List Ent) (l : List Int) (hE : Ents w B ve es) (hn : es.length ≤ 1048576) (hr : ∀ e ∈ es, e.runes.length ≤ 1048576)
    (hg : g < w.heap.size) (h1 : 1 ≤ l.length) (hl : l.length ≤ 3000) (hcap : l.length ≤ c) (hc : ∀ j x, l[j]? = some x → w.cell? ⟨g, f + j, none⟩ = some (.int .i64 x)) :
    Calls Tryz.prog 93 #[ve, .slice (some ⟨g, f, none⟩) l.length c] w fun e w' => e = .returned (.int .i64 (runN es l)) ∧ Below w.heap.size w w' := by
  obtain ⟨va, vn, vc, rfl⟩ : ∃ a n c, ve = .slice a n c := by
    rcases hE.form with ⟨rfl, _⟩ | ⟨_, _, rfl, _, _, _, _⟩
    · exact ⟨_, _, _, rfl⟩
    · exact ⟨_, _, _, rfl⟩
  have HC : Hid _ := hc
  have HE : Hid (Ents _ _ _ _) := hE
  clear hc hE
  obtain ⟨s0, hs0, hs1, hs2, HS⟩ : ∃ s0 : Nat, min (4 : Int) (l.length : Int) = (s0 : Int) ∧ 1 ≤ s0 ∧ s0 ≤ 4 ∧ Hid (s0 ≤ l.length ∧ (s0 = 4 ∨ s0 = l.length)) := ⟨min 4 l.length, by omega, by omega, by omega, by show _ ∧ _; omega⟩
  go_enter Tryz.func93, Tryz.ntmps93
  go_wp2
  go_loopw [5] (fun i wr => RfRel es l w i wr) (fun i _ => (intOf i).toNat)
  case atStart =>
    refine ⟨s0, hs1, hs2, HS.out.1, ?_, fun j h1 h2 => hitN_far ?_, Below.refl _ _⟩
    · rw [← hs0]
    · have := HS.out
      omega
  case round =>
    clear hs0 HS hs1 hs2
    obtain ⟨n, hn1, hn4, hnl, rfl, HN0, hb⟩ := hrel
    have HN : Hid (∀ j, n < j → j ≤ 4 → hitN es l j = false) := HN0
    clear HN0
    by_cases hlt : 1 < n
    · have hk8 : (1 : Int) < (n : Int) := by omega
      have hnc : n ≤ c := by omega
      have hgr : g < wr.heap.size := Nat.lt_of_lt_of_le hg hb.size
      have EN := entryAt_any (HE.out.below hb) (rowAt_take (c := c) n hnl hgr (fun j x hx => (hb.cell hg).trans (HC.out j x hx))) hn hr
      obtain ⟨o, ho⟩ : ∃ o, entOf es (l.take n) = o := ⟨_, rfl⟩
      have HO : Hid (o.isSome = hitN es l n) := by show _ = _; rw [hitN_near hnl, ← ho]; exact entOf_some
      rw [ho] at EN
      clear ho
      unfold elRes elV at EN
      generalize elOf o = eo at *
      generalize o.isSome = ob at *
      go_wp2_with fail
      refine EN.mono ?_
      rintro e w6 ⟨rfl, b6⟩
      have b6' := hb.trans (b6.mono hb.size)
      clear EN b6 hb
      cases ob
      · have HN2 : Hid (∀ j, n - 1 < j → j ≤ 4 → hitN es l j = false) := fun j h3 h4 => by
          by_cases e : j = n
          · subst e; exact HO.out.symm
          · exact HN.out j (by omega) h4
        clear HN HO
        go_wp2
        exact ⟨⟨n - 1, by omega, by omega, by omega, by go_num, HN2.out, b6'.alloc b6'.size _⟩, by simp [intOf]; omega⟩
      · have HF : Hid (runN es l = n) := runN_hit (by omega) hn4 HO.out.symm HN.out
        clear HN HO
        go_wp2
        go_ret
        rw [HF.out]
        exact ⟨rfl, b6'.alloc b6'.size _⟩
    · have hn0 : n = 1 := by omega
      subst hn0
      have HF : Hid (runN es l = 1) := runN_one HN.out
      clear HN
      go_wp2
      go_ret
      rw [HF.out]
      exact ⟨rfl, hb⟩
end Go.Proofs.YtinjldagfhbioaaGreatDoor

namespace Go.Proofs.YtinjldagfhbioaaGreatDoor
open Go.RowKit

/-- A list of ints in the block g, which may be written into. -/
def MidG (w : World) (g : Nat) (v : Value) (l : List Int) : Prop :=
  (∃ a c, v = .slice a 0 c ∧ l = []) ∨ ∃ f c cs, v = .slice (some ⟨g, f, none⟩) l.length c ∧ l.length ≤ c ∧ c ≤ maxLen ∧ w.heap[g]? = some (.cells cs 3) ∧ ∀ j x, l[j]? = some x → w.cell? ⟨g, f + j, none⟩ = some (.int .i64 x)

def sliceLen : Value → Nat
  | .slice _ n _ => n
  | _ => 0

theorem MidG.len {w : World} {g : Nat} {v : Value} {l : List Int} (h : MidG w g v l) : sliceLen v = l.length := by
  rcases h with ⟨a, c, rfl, rfl⟩ | ⟨f, c, cs, rfl, _⟩ <;> rfl

theorem MidG.below {w w' : World} {g : Nat} {v : Value} {l : List Int} (h : MidG w g v l) (hb : Below w.heap.size w w') : MidG w' g v l := by
  rcases h with h | ⟨f, c, cs, h1, h2, h3, h4, h5⟩
  · exact .inl h
  · have hg := (Array.getElem?_eq_some_iff.1 h4).1
    exact .inr ⟨f, c, cs, h1, h2, h3, (hb.block g hg).trans h4, fun j x hx => (hb.cell hg).trans (h5 j x hx)⟩

theorem MidG.kept {w w' : World} {g : Nat} {v : Value} {l : List Int} {row : Option Nat} (h : MidG w g v l) (hg : w.grownBy w' row) (hne : some g ≠ row) : MidG w' g v l := by
  rcases h with h | ⟨f, c, cs, h1, h2, h3, h4, h5⟩
  · exact .inl h
  · have hlt := (Array.getElem?_eq_some_iff.1 h4).1
    exact .inr ⟨f, c, cs, h1, h2, h3, (hg.block g hlt hne).trans h4, fun j x hx => (World.cell?_of_block (hg.block g hlt hne)).trans (h5 j x hx)⟩

theorem setCells_block {T : TypeId} (g : Nat) : ∀ (vs : List Value) (f : Nat) (w : World) (cs : Array Value), w.heap[g]? = some (.cells cs T) → ∃ cs', (w.setCells g f vs).heap[g]? = some (.cells cs' T)
  | [], _, _, cs, h => ⟨cs, h⟩
  | v :: vs, f, w, cs, h => by
    rw [World.setCells]
    exact setCells_block g vs (f + 1) _ _ (heap_setCell_same w g f cs T v h)

theorem setCells_size (g : Nat) : ∀ (vs : List Value) (f : Nat) (w : World), (w.setCells g f vs).heap.size = w.heap.size
  | [], _, _ => rfl
  | v :: vs, f, w => by
    rw [World.setCells, setCells_size g vs (f + 1)]
    simp [World.setCell]

theorem setCells_tape (g : Nat) : ∀ (vs : List Value) (f : Nat) (w : World), (w.setCells g f vs).tape = w.tape
  | [], _, _ => rfl
  | v :: vs, f, w => by
    rw [World.setCells, setCells_tape g vs (f + 1)]
    rfl

theorem setCells_grown (w : World) (q g f : Nat) (vs : List Value) : w.grownBy ((w.drewN q).setCells g f vs) (some g) :=
  ⟨World.os_setCells _ g f vs, setCells_tape g vs f _, World.output_setCells _ g f vs, by rw [setCells_size]; exact Nat.le_refl _, fun k hk hne => World.heap_setCells_other _ g f vs hk (fun e => hne (by rw [e]))⟩

/-- What is left behind a mark that was taken out. -/
theorem midG_del {w : World} {g f c q k : Nat} {cs : Array Value} {l : List Int} (hk : k < l.length) (h2 : l.length ≤ c) (h3 : c ≤ maxLen) (h4 : w.heap[g]? = some (.cells cs 3)) (h5 : ∀ j x, l[j]? = some x → w.cell? ⟨g, f + j, none⟩ = some (.int .i64 x)) :
    MidG ((w.drewN q).setCells g f ((l.eraseIdx k ++ [0]).map (Value.int .i64))) g (.slice (some ⟨g, f, none⟩) (l.eraseIdx k).length c) (l.eraseIdx k) := by
  have h4' : (w.drewN q).heap[g]? = some (.cells cs 3) := h4
  obtain ⟨cs', hcs⟩ := setCells_block g ((l.eraseIdx k ++ [0]).map (Value.int .i64)) f (w.drewN q) cs h4'
  have hlen := List.length_eraseIdx_of_lt hk
  refine .inr ⟨f, c, cs', rfl, by omega, h3, hcs, fun j x hx => ?_⟩
  have hth : (w.drewN q).there g f ((l.eraseIdx k ++ [0]).map (Value.int .i64)).length := fun j hj => by
    have hj2 : j < l.length := by simp [hlen] at hj; omega
    refine ⟨?_, by simp [World.frozen?, h4]⟩
    have := h5 j l[j] (List.getElem?_eq_getElem hj2)
    show (w.cell? ⟨g, f + j, none⟩).isSome = true
    rw [this]; rfl
  have hj : j < (l.eraseIdx k).length := (List.getElem?_eq_some_iff.1 hx).1
  refine World.rangeAt_setCells_same _ g f _ hth j (.int .i64 x) ?_
  rw [List.getElem?_map, List.getElem?_append_left hj, hx]
  rfl

theorem cells1_new (w : World) (n : Nat) (x : Value) (t : TypeId) (hn : n = w.heap.size) : ∀ j u, [x][j]? = some u → (w.alloc (.cells #[x] t)).cell? ((⟨n, 0, none⟩ : Addr).add j) = some u := by
  subst hn
  intro j u hj
  match j, hj with
  | 0, hj => simp at hj; subst hj; simp [Addr.add]

def TkRel (w w0 : World) (es : List Ent) (g N : Nat) (goal : List Int × List Int) (v7 v8 : Value) (wr : World) : Prop :=
  ∃ run rest, 1 ≤ run.length ∧ run.length + rest.length = N ∧ Ints wr w.heap.size v7 run ∧ MidG wr g v8 rest ∧ grab es run rest = goal ∧ Below w0.heap.size w0 wr ∧ w.grownBy wr (some g)

theorem midG_drop {w : World} {g f c n : Nat} {cs : Array Value} {l : List Int} (hn : n ≤ l.length) (h2 : l.length ≤ c) (h3 : c ≤ maxLen) (h4 : w.heap[g]? = some (.cells cs 3)) (h5 : ∀ j x, l[j]? = some x → w.cell? ⟨g, f + j, none⟩ = some (.int .i64 x)) :
    MidG w g (.slice (some ⟨g, f + n, none⟩) (l.length - n) (c - n)) (l.drop n) := by
  refine .inr ⟨f + n, c - n, cs, by rw [List.length_drop], by rw [List.length_drop]; omega, by omega, h4, fun j x hx => ?_⟩
  rw [List.getElem?_drop] at hx
  rw [Nat.add_assoc]
  exact h5 (n + j) x hx

theorem ints_form1 {w : World} {B : Nat} {v : Value} {l : List Int} (h : Ints w B v l) (h1 : 1 ≤ l.length) : ∃ g c, v = .slice (some ⟨g, 0, none⟩) l.length c ∧ B ≤ g ∧ g < w.heap.size ∧ ∀ j x, l[j]? = some x → w.cell? ⟨g, 0 + j, none⟩ = some (.int .i64 x) := by
  rcases h.form with ⟨rfl, rfl⟩ | ⟨g, cap, rfl, _, _⟩
  · simp at h1
  · refine ⟨g, cap, rfl, (World.ownsRow.lt h g rfl).1, (World.ownsRow.lt h g rfl).2, fun j x hx => ?_⟩
    have hj := (List.getElem?_eq_some_iff.1 hx).1
    rw [Nat.zero_add, h.cell j hj, hx]
    rfl

theorem markInto_any {w w0 : World} {B B' g : Nat} {ve v7 v8 : Value} {es : List Ent} {run rest : List Int} (hE : Ents w0 B ve es) (hn : es.length ≤ 1048576) (hr : ∀ e ∈ es, e.runes.length ≤ 1048576) (ht : Tabs3 w0) (hb : Below w0.heap.size w0 w)
    (i7 : Ints w B' v7 run) (i8 : MidG w g v8 rest) (h1 : 1 ≤ run.length) (hl : run.length + rest.length ≤ 3000) :
    Calls Tryz.prog 94 #[ve, v7, v8] w fun e w' => e = .returned (ansV (markAt es run rest)) ∧ Below w.heap.size w w' := by
  rcases i8 with ⟨a, c, rfl, rfl⟩ | ⟨f, c, cs, rfl, h2, h3, h4, h5⟩
  · exact markInto_nil w ve v7 a c es run
  · obtain ⟨g7, c7, rfl, _, hg7, hc7⟩ := ints_form1 i7 h1
    exact markInto_row w B g7 0 c7 g f c ve es run rest (hE.below hb) hn hr (ht.below hb) hg7 (Array.getElem?_eq_some_iff.1 h4).1 h1 (by omega) (by omega) h2 hc7 h5

set_option maxRecDepth 100000 in
set_option maxHeartbeats 8000000 in
theorem takeRun_row (w w0 : World) (B g f c : Nat) (cs : Array Value) (ve : Value) (es : List Ent) (l : List Int) (hb0 : Below w0.heap.size w0 w) (hE : Ents w0 B ve es) (hn : es.length ≤ 1048576) (hr : ∀ e ∈ es, e.runes.length ≤ 1048576) (ht : Tabs3 w0)
    (hg0 : w0.heap.size ≤ g) (h1 : 1 ≤ l.length) (hl : l.length ≤ 3000) (h2 : l.length ≤ c) (h3 : c ≤ maxLen) (h4 : w.heap[g]? = some (.cells cs 3)) (h5 : ∀ j x, l[j]? = some x → w.cell? ⟨g, f + j, none⟩ = some (.int .i64 x)) :
    Calls Tryz.prog 78 #[ve, .slice (some ⟨g, f, none⟩) l.length c] w fun e w' => ∃ vr vq, e = .returned (.tuple #[vr, vq]) ∧ Ints w' w.heap.size vr (take4 es l).1 ∧ MidG w' g vq (take4 es l).2 ∧ Below w0.heap.size w0 w' ∧ w.grownBy w' (some g) := by
  obtain ⟨i0, hi, hzz, hz1, hz2⟩ := info_parts info_int
  have hg : g < w.heap.size := (Array.getElem?_eq_some_iff.1 h4).1
  have RF := runAt_any w B g f c ve es l (hE.below hb0) hn hr hg h1 hl h2 h5
  obtain ⟨bd1, bd2, bd3⟩ := runN_bd (es := es) h1
  obtain ⟨goal, HG⟩ : ∃ goal, Hid (take4 es l = goal) := ⟨_, rfl⟩
  have HGR : Hid (grab es (l.take (runN es l)) (l.drop (runN es l)) = goal) := HG.out
  rw [HG.out]
  clear HG
  generalize runN es l = n at *
  obtain ⟨va, vn, vc, hve⟩ : ∃ a n c, ve = .slice a n c := by
    rcases hE.form with ⟨rfl, _⟩ | ⟨_, _, rfl, _, _, _, _⟩
    · exact ⟨_, _, _, rfl⟩
    · exact ⟨_, _, _, rfl⟩
  subst hve
  have HE : Hid (Ents _ _ _ _) := hE
  have HT : Hid (Tabs3 _) := ht
  have HB0 : Hid (Below _ _ _) := hb0
  have H5 : Hid (∀ j x, l[j]? = some x → w.cell? ⟨g, f + j, none⟩ = some (.int .i64 x)) := h5
  have H4 : Hid (w.heap[g]? = some (.cells cs 3)) := h4
  have hnc : n ≤ c := by omega
  clear hE ht hb0 h5 h4
  go_enter Tryz.func78, Tryz.ntmps78
  go_wp2_with fail
  refine RF.mono ?_
  rintro e w1 ⟨rfl, b1⟩
  clear RF
  have CLN := fun (u : World) (hu : Below w1.heap.size w1 u) => clone_at u g f c (l.take n) (by rw [List.length_take]; omega) (fun j x hx => by
    have hjn : j < n := by
      have := (List.getElem?_eq_some_iff.1 hx).1
      rw [List.length_take] at this
      omega
    rw [List.getElem?_take_of_lt hjn] at hx
    rw [hu.cell (Nat.lt_of_lt_of_le hg b1.size), b1.cell hg]
    exact H5.out j x hx)
  rw [show (l.take n).length = n by rw [List.length_take]; omega] at CLN
  go_upto_region 2 with fail
  go_cut [7, 8] from 14 to 20 (fun v7 v8 wx => Ints wx w1.heap.size v7 (l.take n) ∧ v8 = .slice (if c = n then some ⟨g, f, none⟩ else some ⟨g, f + n, none⟩) (l.length - n) (c - n) ∧ Below w1.heap.size w1 wx)
  case first =>
    by_cases hcn : c = n
    · subst hcn
      go_region_with (go_at_call 81; refine (CLN _ (by repeat (first | exact Below.refl _ _ | refine Below.drew ?_))).mono ?_; rintro e u6 ⟨v6, rfl, i6, b6⟩)
      all_goals
        have hK : Ints u6 w1.heap.size v6 (l.take c) ∧ Below w1.heap.size w1 u6 := ⟨i6, by first | exact b6 | exact ((Below.refl _ _).drew).trans b6⟩
        clear i6 b6 CLN
        go_wp2_with fail
        go_meet
        case rel => exact ⟨hK.1, by simp; omega, hK.2⟩
    · have hcn2 : (c == n) = false := by simpa using hcn
      go_region_with (go_at_call 81; refine (CLN _ (by repeat (first | exact Below.refl _ _ | refine Below.drew ?_))).mono ?_; rintro e u6 ⟨v6, rfl, i6, b6⟩)
      all_goals
        have hK : Ints u6 w1.heap.size v6 (l.take n) ∧ Below w1.heap.size w1 u6 := ⟨i6, by first | exact b6 | exact ((Below.refl _ _).drew).trans b6⟩
        clear i6 b6 CLN
        go_wp2_with fail
        go_meet
        case rel => exact ⟨hK.1, by rw [if_neg hcn], hK.2⟩
  case rest =>
    obtain ⟨i7, rfl, bc⟩ := hcut
    clear CLN
    have b1' : Below w0.heap.size w0 w1 := HB0.out.trans (b1.mono HB0.out.size)
    have bw : Below w.heap.size w wc := b1.trans (bc.mono b1.size)
    have b0c : Below w0.heap.size w0 wc := b1'.trans (bc.mono b1'.size)
    have H4c : wc.heap[g]? = some (.cells cs 3) := (bw.block g hg).trans H4.out
    have H5c : ∀ j x, l[j]? = some x → wc.cell? ⟨g, f + j, none⟩ = some (.int .i64 x) := fun j x hx => (bw.cell hg).trans (H5.out j x hx)
    have hM : MidG wc g (.slice (if c = n then some ⟨g, f, none⟩ else some ⟨g, f + n, none⟩) (l.length - n) (c - n)) (l.drop n) := by
      by_cases hcn : c = n
      · refine .inl ⟨if c = n then some ⟨g, f, none⟩ else some ⟨g, f + n, none⟩, c - n, ?_, List.drop_eq_nil_of_le (by omega)⟩
        rw [show l.length - n = 0 by omega]
      · rw [if_neg hcn]
        exact midG_drop bd2 h2 h3 H4c H5c
    have hst : TkRel w w0 es g l.length goal u7 (.slice (if c = n then some ⟨g, f, none⟩ else some ⟨g, f + n, none⟩) (l.length - n) (c - n)) wc :=
      ⟨l.take n, l.drop n, by rw [List.length_take]; omega, by rw [List.length_take, List.length_drop]; omega, ints_low2 i7 b1.size, hM, HGR.out, b0c, ⟨bw.os, bw.tape, bw.output, bw.size, fun k hk _ => bw.block k hk⟩⟩
    have HST : Hid (TkRel _ _ _ _ _ _ _ _ _) := hst
    clear hst hM H4c H5c b0c bw b1' i7 bc b1 HGR H4 H5 HB0
    generalize (Value.slice (if c = n then some ⟨g, f, none⟩ else some ⟨g, f + n, none⟩) (l.length - n) (c - n)) = v8 at *
    go_wp2_with fail
    go_loopw [7, 8] (fun v7 v8 wr => TkRel w w0 es g l.length goal v7 v8 wr) (fun _ v8 _ => sliceLen v8)
    case atStart => exact HST.out
    case round =>
      clear HST
      obtain ⟨run, rest, hr1, hrl, j7, j8, hgr, jb, jg⟩ := hrel
      have MI := markInto_any HE.out hn hr HT.out jb j7 j8 hr1 (by omega)
      have hl8 := j8.len
      have HGR : Hid (grab es run rest = goal) := hgr
      have HJB : Hid (Below _ _ _) := jb
      have HJG : Hid (World.grownBy _ _ _) := jg
      have H7 : Hid (Ints _ _ _ _) := j7
      have H8 : Hid (MidG _ _ _ _) := j8
      clear hgr jb jg j7 j8
      rcases mark_cases es run rest with hmk | ⟨k, hkl, hmk⟩
      · rw [hmk] at MI
        have HF : Hid (goal = (run, rest)) := by show _ = _; rw [← HGR.out]; exact grab_stop hmk
        clear HGR hmk
        unfold ansV at MI
        simp only [show (-1 : Int) < 0 from by decide, if_true, show decide ((0 : Int) ≤ -1) = false from rfl] at MI
        go_wp2_with fail
        refine MI.mono ?_
        rintro e w2 ⟨rfl, b2⟩
        clear MI
        go_wp2
        go_ret2
        rw [HF.out]
        exact ⟨_, _, rfl, H7.out.below b2, H8.out.below b2, HJB.out.trans (b2.mono HJB.out.size), HJG.out.trans ⟨b2.os, b2.tape, b2.output, b2.size, fun k hk _ => b2.block k hk⟩⟩
      · obtain ⟨x, hx⟩ : ∃ x, rest[k]? = some x := ⟨_, List.getElem?_eq_getElem hkl⟩
        have HF : Hid (grab es (run ++ [x]) (rest.eraseIdx k) = goal) := by
          show _ = _
          rw [← HGR.out, grab_go hkl hmk]
          unfold at0
          rw [hx]
          rfl
        rw [hmk] at MI
        clear HGR hmk
        unfold ansV at MI
        simp only [show ¬ ((k : Int) < 0) from by omega, if_false, show decide ((0 : Int) ≤ (k : Int)) = true from decide_eq_true (by omega)] at MI
        obtain ⟨f8, c8, cs8, h81, h82, h83, h84, h85⟩ : ∃ f c cs, u8 = .slice (some ⟨g, f, none⟩) rest.length c ∧ rest.length ≤ c ∧ c ≤ maxLen ∧ wr.heap[g]? = some (.cells cs 3) ∧ ∀ j x, rest[j]? = some x → wr.cell? ⟨g, f + j, none⟩ = some (.int .i64 x) := by
          rcases H8.out with ⟨a, c, _, h⟩ | h
          · subst h; simp at hkl
          · exact h
        subst h81
        have hgr : g < wr.heap.size := (Array.getElem?_eq_some_iff.1 h84).1
        have hk8 : (k : Int) < (rest.length : Int) := by omega
        go_wp2_with fail
        refine MI.mono ?_
        rintro e w2 ⟨rfl, b2⟩
        clear MI
        have hcx : w2.cell? ⟨g, f8 + k, none⟩ = some (.int .i64 x) := (b2.cell hgr).trans (h85 k x hx)
        have H82 : Hid (w2.heap[g]? = some (.cells cs8 3)) := (b2.block g hgr).trans h84
        have H85 : Hid (∀ j x, rest[j]? = some x → w2.cell? ⟨g, f8 + j, none⟩ = some (.int .i64 x)) := fun j x hx => (b2.cell hgr).trans (h85 j x hx)
        have i72 : Ints w2 w.heap.size u7 run := H7.out.below b2
        have b02 : Below w0.heap.size w0 w2 := HJB.out.trans (b2.mono HJB.out.size)
        have g02 : w.grownBy w2 (some g) := HJG.out.trans ⟨b2.os, b2.tape, b2.output, b2.size, fun k hk _ => b2.block k hk⟩
        have hsz2 : w.heap.size ≤ w2.heap.size := g02.size
        have HB02 : Hid (Below _ _ _) := b02
        have HG02 : Hid (World.grownBy _ _ _) := g02
        have hgw2 : g < w2.heap.size := Nat.lt_of_lt_of_le hgr b2.size
        clear h84 h85 H7 H8 HJB HJG b2 b02 g02 hgr hx
        unfold Ints at i72
        go_wp2_with (at_builtin; refine wpList_append_own _ rfl _ _ 35 rfl w.heap.size 3 i0 (.int .i64 0) 1 8 Tryz.underlying35 hi hzz hz1 hz2 rfl (by decide) _ _ _ rfl (i72.alloc _) ⟨w2.heap.size, 0, none⟩ 1 1 [.int .i64 x] rfl rfl (cells1_new _ _ _ _ (by simp)) (fun u hu => by simp at hu; subst hu; rfl) (by unfold maxLen; omega) (by omega) (by simp; omega) ?_)
        intro v7' w4 ho4 hg4 _
        have i74 : Ints w4 w.heap.size v7' (run ++ [x]) := Ints.snoc ho4
        have hne : some g ≠ u7.ownBlock := fun e => by have := (World.ownsRow.lt i72 g e.symm).1; omega
        have h44 : w4.heap[g]? = some (.cells cs8 3) := (hg4.block g (by simp; omega) hne).trans ((Below.heap_alloc _ _ _ hgw2).trans H82.out)
        have h45 : ∀ j x, rest[j]? = some x → w4.cell? ⟨g, f8 + j, none⟩ = some (.int .i64 x) := fun j y hy => by
          rw [World.cell?_of_block ((hg4.block g (by simp; omega) hne).trans (Below.heap_alloc _ _ _ hgw2))]
          exact H85.out j y hy
        have b04 : Below w0.heap.size w0 w4 := Below.grown (HB02.out.alloc HB02.out.size _) hg4 (HB02.out.alloc HB02.out.size _).size (fun j hj => Nat.le_trans (Nat.le_trans hg0 (Nat.le_of_lt hg)) (World.ownsRow.lt i72 j hj).1)
        have g04 : w.grownBy w4 (some g) := by
          refine ⟨hg4.os.trans HG02.out.os, hg4.tape.trans HG02.out.tape, hg4.output.trans HG02.out.output, Nat.le_trans hsz2 (Nat.le_trans (by simp) hg4.size), fun k hk hkn => ?_⟩
          have hk2 : k < w2.heap.size := Nat.lt_of_lt_of_le hk hsz2
          rw [hg4.block k (by simp; omega) (fun e => by have := (World.ownsRow.lt i72 k e.symm).1; omega), Below.heap_alloc _ _ _ hk2]
          exact HG02.out.block k hk hkn
        have DEL := delete_at w4 g f8 c8 k rest hkl h82 h83 h45 (fun j => by simp [World.frozen?, h44])
        have HMD := fun q => midG_del (q := q) hkl h82 h83 h44 h45
        have HMD' : Hid (∀ q, MidG ((w4.drewN q).setCells g f8 ((rest.eraseIdx k ++ [0]).map (Value.int .i64))) g (.slice (some ⟨g, f8, none⟩) (rest.eraseIdx k).length c8) (rest.eraseIdx k)) := HMD
        have hlen := List.length_eraseIdx_of_lt hkl
        have H74 : Hid (Ints _ _ _ _) := i74
        have HB04 : Hid (Below _ _ _) := b04
        have HG04 : Hid (World.grownBy _ _ _) := g04
        clear ho4 hg4 h44 h45 HMD i74 b04 g04 i72 HB02 HG02 H82 H85 hcx
        go_wp2_with fail
        refine DEL.mono ?_
        rintro e w5 ⟨rfl, q, rfl⟩
        clear DEL
        go_wp2
        refine ⟨⟨run ++ [x], rest.eraseIdx k, by simp, by rw [List.length_append]; simp; omega, ?_, (by have hq := HMD'.out q; rw [List.map_append, hlen] at hq; exact hq), HF.out, ?_, HG04.out.trans (setCells_grown w4 q g f8 _)⟩, ?_⟩
        · refine World.ownsRow.kept H74.out (setCells_grown w4 q g f8 _) ?_
          cases hv : v7'.ownBlock with
          | none => exact .inl rfl
          | some j => exact .inr fun c => by have := (World.ownsRow.lt H74.out j hv).1; have := Option.some.inj c; omega
        · exact Below.grown HB04.out (setCells_grown w4 q g f8 _) HB04.out.size (fun j hj => by cases hj; exact hg0)
        · show sliceLen _ < sliceLen _
          simp [sliceLen]
          omega
end Go.Proofs.YtinjldagfhbioaaGreatDoor

namespace Go.Proofs.YtinjldagfhbioaaGreatDoor
open Go.RowKit

theorem run_append_none {P : Program} (w : World) (t ty e : TypeId) (i : TypeInfo) (ht : P.underlying t = some (.slice e)) (hi : P.info? e = some i) (b : Option Addr) (n c : Nat) (hle : n ≤ c) :
    (Builtin.append_ #[t, t] ty #[.slice b n c, .slice none 0 0]).run P w = .ok (.slice b n c) w := by
  cases b <;> simp [Builtin.append_, run_underlying ht, sizeOf, typeInfo, hi, hle, storeCells, Builtin.lenOf, Builtin.firstCells]

theorem elAll_app (es fs : List El) : elAll (es ++ fs) = elAll es ++ elAll fs := by simp [elAll]

theorem elAll_one (es : List El) : ∀ u ∈ elAll es, u.oneCell' = true := by
  intro u hu
  unfold elAll at hu
  obtain ⟨e, _, he⟩ := List.mem_flatMap.1 hu
  simp [elC] at he
  rcases he with rfl | rfl | rfl | rfl <;> rfl

theorem append_els {w : World} {ops : Array Oper} {rest : List Oper} {o : Oper} {a : Act} {Q : Exit → Act → World → Prop} (hgd : o.guard = none) (s x : Operand)
    (ho : o.op = .call { callee := .builtin .append, args := #[s, x], argTypes := #[62, 62] }) (B B' : Nat) (v vx : Value) (es fs : List El) (hs : a.eval s = v) (hx : a.eval x = vx) (hE : Elems w B v es) (hF : Elems w B' vx fs)
    (h63 : es.length + fs.length ≤ 1048576) (hbase : B ≤ w.heap.size) (h : ∀ v' w', Elems w' B v' (es ++ fs) → w.grownBy w' v.ownBlock → wpList Tryz.prog ops Q rest (a.put o.dst v') w') : wpList Tryz.prog ops Q (o :: rest) a w := by
  obtain ⟨i1, hi1, hz1, hs1, hy1⟩ := info_parts info_elem
  rcases hF.form with ⟨rfl, rfl⟩ | ⟨g, cap, rfl, _, _⟩
  · obtain ⟨b, n, c, rfl, hnc⟩ : ∃ b n c, v = .slice b n c ∧ n ≤ c := by
      rcases hE.form with ⟨rfl, rfl⟩ | ⟨g, cap, rfl, h1, _⟩
      · exact ⟨_, _, _, rfl, Nat.le_refl _⟩
      · exact ⟨_, _, _, rfl, h1⟩
    refine Go.Lib.wpList_append_run w hgd s x 62 62 ho _ _ hs hx _ _ (run_append_none w _ _ _ i1 Tryz.underlying62 hi1 b n c hnc) ?_
    refine h _ _ ?_ ⟨rfl, rfl, rfl, Nat.le_refl _, fun _ _ _ => rfl⟩
    rw [List.append_nil]
    exact hE
  · refine wpList_append_own w hgd s x 62 ho B 72 i1 _ 4 32 Tryz.underlying62 hi1 hz1 hs1 hy1 rfl (by decide) v es.length (elAll es) hs hE ⟨g, 0, none⟩ fs.length cap (elAll fs) hx (elAll_len fs) (fun j u hj => ?_) (elAll_one fs) (by unfold maxLen; omega) (by omega) hbase (fun v' w' h1 h2 _ => h v' w' ?_ h2)
    · have hjl : j < fs.length * 4 := by
        have := (List.getElem?_eq_some_iff.1 hj).1
        rw [elAll_len] at this
        exact this
      have := World.ownsRow.cellAt hF j hjl
      rw [hj] at this
      show w.cell? ((⟨g, 0, none⟩ : Addr).add j) = some u
      rw [← this]
      unfold Addr.add
      split
      · rename_i h0; subst h0; rfl
      · simp
    · unfold Elems
      rw [elAll_app, List.length_append]
      exact h1
end Go.Proofs.YtinjldagfhbioaaGreatDoor
