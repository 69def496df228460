/- Contract of the laws' toElemS: a copy, in memory of its own, of elems that are handed in. -/
import Derived.Test.YtcmanfcgoapjjafAElems
import Derived.Test.YtcmanfcgoapjjafToEl
import Derived.Test.YtcmanfcgoapjjafGrown1
import Derived.OwnWalk
namespace Go.Proofs.Ytcmanfcgoapjjaf
open Go.RowKit

def zCells4 : Array Value := #[.int .i64 0, .int .i64 0, .int .i64 0, .bool false]

theorem made_els (n : Nat) : (madeCells zCells4 (n * 4)).toList = elAll (List.replicate n elZ) := by
  have hl : (elAll (List.replicate n elZ)).length = n * 4 := by rw [elAll_len]; simp
  apply List.ext_getElem?
  intro i
  by_cases hi : i < n * 4
  · have h1 : i / 4 < n := by omega
    have h2 : i % 4 < 4 := by omega
    have e := elAll_at (List.replicate n elZ) (i / 4) (i % 4) elZ (by simp [h1]) h2
    rw [show i / 4 * 4 + i % 4 = i by omega] at e
    rw [e]
    have hs : zCells4.size = 4 := rfl
    simp only [madeCells, Array.getElem?_toList, Array.getElem?_map, Array.getElem?_range, hi, hs, if_true, Option.map_some]
    generalize i % 4 = j at *
    match j, h2 with
    | 0, _ => rfl
    | 1, _ => rfl
    | 2, _ => rfl
    | 3, _ => rfl
  · rw [List.getElem?_eq_none (by simp [size_madeCells]; omega), List.getElem?_eq_none (by omega)]

def fillL (es : List El) (k : Nat) : List El := es.take k ++ List.replicate (es.length - k) elZ

theorem fillL_len (es : List El) (k : Nat) (h : k ≤ es.length) : (fillL es k).length = es.length := by
  unfold fillL
  rw [List.length_append, List.length_take, List.length_replicate]; omega

theorem fillL_set {es : List El} {k : Nat} {e : El} (h : es[k]? = some e) : (fillL es k).set k e = fillL es (k + 1) := by
  have hk := (List.getElem?_eq_some_iff.1 h).1
  unfold fillL
  rw [List.set_append_right _ _ (by simp; omega), List.length_take, show k - min k es.length = 0 by omega, show es.length - k = (es.length - (k + 1)) + 1 by omega, List.replicate_succ, List.set_cons_zero, List.take_add_one, h]
  simp

theorem fillL_all (es : List El) : fillL es es.length = es := by simp [fillL]

def TLRel (w : World) (es : List El) (i : Value) (wr : World) : Prop :=
  ∃ k : Nat, k ≤ es.length ∧ i = .int .i64 k ∧ wr.ownsRow w.heap.size 37 4 (.slice (some ⟨w.heap.size, 0, none⟩) es.length es.length) es.length (elAll (fillL es k)) ∧ Below w.heap.size w wr

theorem cell_lt' {w : World} {b o : Nat} {v : Value} (h : w.cell? ⟨b, o, none⟩ = some v) : b < w.heap.size := by
  apply Classical.byContradiction
  intro hn
  have : w.heap[b]? = none := by simp; omega
  simp [World.cell?, this] at h

set_option maxRecDepth 100000 in
set_option maxHeartbeats 2000000 in
theorem toEls_any (w0 w : World) (a : Option Addr) (len cap : Nat) (es : List El) (hA : ArgEls w0 a len cap es) (hb : Below w0.heap.size w0 w) (hm : len ≤ 1048576) :
    Calls Try.prog 6 #[.slice a len cap] w fun e w' => ∃ g, e = .returned (.slice (some ⟨g, 0, none⟩) len len) ∧ Elems w' w.heap.size (.slice (some ⟨g, 0, none⟩) len len) es ∧ Below w.heap.size w w' := by
  obtain ⟨hlen, hlc, hcm, hA⟩ := hA
  subst hlen
  obtain ⟨i0, hi, hz0, hz1, hz2⟩ := info_parts info_elem
  go_enter Try.func6, Try.ntmps6
  go_wp2_with (at_make; refine wpList_make_full _ rfl _ _ 25 rfl w.heap.size 37 i0 _ 4 Try.underlying25 hi hz0 hz1 .i64 .i64 _ _ es.length rfl rfl rfl rfl (by rw [hz2]; omega) (by unfold maxLen; omega) (Nat.le_refl _) ?_; intro w1 hown hgr)
  have hE1 : w1.ownsRow w.heap.size 37 4 (.slice (some ⟨w.heap.size, 0, none⟩) es.length es.length) es.length (elAll (fillL es 0)) := by
    have h2 : w1.ownsRow w.heap.size 37 4 (.slice (some ⟨w.heap.size, 0, none⟩) es.length es.length) es.length (madeCells zCells4 (es.length * 4)).toList := hown
    rw [made_els] at h2
    simpa [fillL] using h2
  have hb1 : Below w.heap.size w w1 := Below.grown (Below.refl _ _) hgr (Nat.le_refl _) (fun j hj => by cases hj)
  clear hown hgr
  go_loopw [4] (fun i wr => TLRel w es i wr) (fun i _ => es.length - (intOf i).toNat)
  case atStart => exact ⟨0, Nat.zero_le _, rfl, hE1, hb1⟩
  case round =>
    clear hE1 hb1
    obtain ⟨k, hk, rfl, hE, hbr⟩ := hrel
    by_cases hlt : k < es.length
    · obtain ⟨e, he⟩ : ∃ e, es[k]? = some e := ⟨_, List.getElem?_eq_getElem hlt⟩
      obtain ⟨b, o, rfl, hAE⟩ := hA.resolve_left (by omega)
      have hbb := hb.trans (hbr.mono hb.size)
      obtain ⟨c0, c1, c2, c3⟩ := hAE k e he
      have hbl := cell_lt' c0
      have a0 : wr.cell? ⟨b, o + k * 4, none⟩ = some (.int .i64 e.first) := by rw [hbb.cell hbl]; exact c0
      have a1 : wr.cell? ⟨b, o + k * 4 + 1, none⟩ = some (.int .i64 e.second) := by rw [hbb.cell hbl]; exact c1
      have a2 : wr.cell? ⟨b, o + k * 4 + 2, none⟩ = some (.int .i64 e.third) := by rw [hbb.cell hbl]; exact c2
      have a3 : wr.cell? ⟨b, o + k * 4 + 3, none⟩ = some (.bool e.varies) := by rw [hbb.cell hbl]; exact c3
      have hk8 : (k : Int) < (es.length : Int) := by omega
      have T := toElem_any wr e.first e.second e.third e.varies
      have HE : Hid (World.ownsRow _ _ _ _ _ _ _) := hE
      have HG : Hid (es[k]? = some e) := he
      clear hAE he hE c0 c1 c2 c3 hbb hbl
      go_wp2_with fail
      refine T.mono ?_
      rintro e' w3 ⟨rfl, b3⟩
      have h3 : w3.ownsRow w.heap.size 37 4 (.slice (some ⟨w.heap.size, 0, none⟩) es.length es.length) es.length (elAll (fillL es k)) := World.ownsRow.kept HE.out (row := none) ⟨b3.os, b3.tape, b3.output, b3.size, fun k hk _ => b3.block k hk⟩ (by simp [Value.ownBlock])
      have hfl := fillL_len es k hk
      have s1 := h3.stored (k * 4) (.int .i64 e.first)
      have s2 := s1.1.stored (k * 4 + 1) (.int .i64 e.second)
      have s3 := s2.1.stored (k * 4 + 2) (.int .i64 e.third)
      have s4 := s3.1.stored (k * 4 + 3) (.bool e.varies)
      have s5 := s4.1
      rw [← elAll_set _ k e (by omega), fillL_set HG.out] at s5
      have HS : Hid (World.ownsRow _ _ _ _ _ _ _) := s5
      have hb3 := hbr.trans (b3.mono hbr.size)
      have HB : Hid (Below _ _ _) := grown_ge (grown_ge (grown_ge (grown_ge hb3 s1.2 (Nat.le_refl _)) s2.2 (Nat.le_refl _)) s3.2 (Nat.le_refl _)) s4.2 (Nat.le_refl _)
      obtain ⟨y, hy⟩ : ∃ y, (fillL es k)[k]? = some y := ⟨_, List.getElem?_eq_getElem (by omega)⟩
      have hE3 : Elems w3 w.heap.size (.slice (some ⟨w.heap.size, 0, none⟩) (fillL es k).length es.length) (fillL es k) := by
        unfold Elems
        rw [hfl]; exact h3
      obtain ⟨c0, c1, c2, c3⟩ := hE3.cells k y hy
      have f0 := h3.frozenAt (k * 4)
      have f1 := h3.frozenAt (k * 4 + 1)
      have f2 := h3.frozenAt (k * 4 + 2)
      have f3 := h3.frozenAt (k * 4 + 3)
      clear T a0 a1 a2 a3 HE HG s1 s2 s3 s4 s5 h3 hy hE3 b3 hfl hb3
      go_wp2
      exact ⟨⟨k + 1, hlt, by go_num, HS.out, HB.out⟩, by simp [intOf]; omega⟩
    · have hk3 : k = es.length := by omega
      subst hk3
      rw [fillL_all] at hE
      clear hA
      go_wp2
      go_ret
      exact ⟨_, rfl, hE, hbr⟩
end Go.Proofs.Ytcmanfcgoapjjaf
