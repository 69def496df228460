/- A list of ints that lies somewhere in memory; slices.Equal and elemOfEntry of such a one. -/
import Derived.Test.YtcmanfcgoapjjafDoorIEntry
namespace Go.Proofs.YtcmanfcgoapjjafDoor
open Go.RowKit

/-- A list of ints that lies somewhere. -/
def RowAt (w : World) (v : Value) (l : List Int) : Prop :=
  (∃ a c, v = .slice a 0 c ∧ l = []) ∨ ∃ g f c, v = .slice (some ⟨g, f, none⟩) l.length c ∧ g < w.heap.size ∧ ∀ j x, l[j]? = some x → w.cell? ⟨g, f + j, none⟩ = some (.int .i64 x)

theorem RowAt.below {w w' : World} {v : Value} {l : List Int} (h : RowAt w v l) (hb : Below w.heap.size w w') : RowAt w' v l := by
  rcases h with h | ⟨g, f, c, h1, h2, h3⟩
  · exact .inl h
  · exact .inr ⟨g, f, c, h1, Nat.lt_of_lt_of_le h2 hb.size, fun j x hx => by rw [hb.cell h2]; exact h3 j x hx⟩

theorem Ints.rowAt {w : World} {B : Nat} {v : Value} {l : List Int} (h : Ints w B v l) : RowAt w v l := by
  rcases h.form with ⟨rfl, rfl⟩ | ⟨g, cap, rfl, _, _⟩
  · exact .inl ⟨_, _, rfl, rfl⟩
  · refine .inr ⟨g, 0, cap, rfl, (World.ownsRow.lt h g rfl).2, fun j x hx => ?_⟩
    have hj := (List.getElem?_eq_some_iff.1 hx).1
    rw [Nat.zero_add, h.cell j hj, hx]
    rfl

theorem RowAt.slice {w : World} {v : Value} {l : List Int} (h : RowAt w v l) : ∃ a c, v = .slice a l.length c := by
  rcases h with ⟨a, c, rfl, rfl⟩ | ⟨g, f, c, rfl, _, _⟩
  · exact ⟨_, _, rfl⟩
  · exact ⟨_, _, rfl⟩

set_option maxRecDepth 100000 in
set_option maxHeartbeats 1000000 in
theorem equal_at (w : World) (g g' f cap cap' n : Nat) (za zb : List Int) (ha : za.length = n) (hb : zb.length = n) (hz : n ≤ 1048576)
    (h1 : ∀ j, j < n → w.cell? ⟨g, j, none⟩ = some (.int .i64 (za[j]?.getD 0)))
    (h2 : ∀ j, j < n → w.cell? ⟨g', f + j, none⟩ = some (.int .i64 (zb[j]?.getD 0))) :
    Calls Tryd.prog 61 #[.slice (some ⟨g, 0, none⟩) n cap, .slice (some ⟨g', f, none⟩) n cap'] w fun e w' => e = .returned (.bool (decide (za = zb))) ∧ ∃ n, w' = w.drewN n := by
  go_enter Tryd.func61, Tryd.ntmps61
  go_wp2
  go_loopw [13] (fun i wr => ∃ k nq : Nat, k ≤ n ∧ i = .int .i64 k ∧ wr = w.drewN nq ∧ Hid (EqualTo za zb k)) (fun i _ => n - (intOf i).toNat)
  case atStart => exact ⟨0, 0, Nat.zero_le _, rfl, rfl, fun j hj => by omega⟩
  case round =>
    obtain ⟨k, nq, hk, rfl, rfl, HS⟩ := hrel
    by_cases hlt : k < n
    · obtain ⟨x, hx⟩ : ∃ x, za[k]? = some x := ⟨_, List.getElem?_eq_getElem (by omega)⟩
      obtain ⟨y, hy⟩ : ∃ y, zb[k]? = some y := ⟨_, List.getElem?_eq_getElem (by omega)⟩
      have g1 := h1 k hlt
      have g2 := h2 k hlt
      rw [hx] at g1
      rw [hy] at g2
      have e1 : w.cell? ⟨g, k, none⟩ = some (.int .i64 x) := g1
      have e2 : w.cell? ⟨g', f + k, none⟩ = some (.int .i64 y) := g2
      have hz2 : (k : Int) < (n : Int) := by omega
      have HX : Hid _ := hx
      have HY : Hid _ := hy
      have HA : Hid _ := ha
      have HB : Hid _ := hb
      clear h1 h2 g1 g2 hx hy ha hb
      by_cases e : x = y
      · subst e
        have HS2 : Hid (EqualTo za zb (k + 1)) := by
          intro j hj
          by_cases e : j = k
          · subst e; rw [HX.out, HY.out]
          · exact HS.out j (by omega)
        go_wp2
        go_quiet (fail)
        go_wp2
        exact ⟨⟨k + 1, _, by omega, by go_num, rfl, HS2⟩, by simp [intOf]; omega⟩
      · have hne : (x != y) = true := by simpa using e
        have HN : Hid (false = decide (za = zb)) := by
          refine (decide_eq_false fun h => e ?_).symm
          have := HX.out
          rw [h, HY.out] at this
          exact (Option.some.inj this).symm
        clear e
        go_wp2
        go_quiet (fail)
        go_wp2
        go_ret
        exact ⟨ret_b HN.out, _, World.drewN_drewN _ _ _⟩
    · have HN : Hid (true = decide (za = zb)) := by
        refine (decide_eq_true ?_).symm
        apply List.ext_getElem?
        intro j
        by_cases hj : j < k
        · exact HS.out j hj
        · rw [List.getElem?_eq_none (by omega), List.getElem?_eq_none (by omega)]
      have HA : Hid _ := ha
      have HB : Hid _ := hb
      clear h1 h2 ha hb
      go_wp2
      go_ret
      exact ⟨ret_b HN.out, _, rfl⟩

theorem equal_rowAt {w : World} {B : Nat} {a b : Value} {za zb : List Int} (hza : za.length ≤ 1048576) (ha : Ints w B a za) (hb : RowAt w b zb) :
    Calls Tryd.prog 61 #[a, b] w fun e w' => e = .returned (.bool (decide (za = zb))) ∧ ∃ n, w' = w.drewN n := by
  by_cases h : za.length = zb.length
  · rcases ha.form with ⟨rfl, rfl⟩ | ⟨g, cap, rfl, h1, h2⟩
    · have e : zb = [] := List.eq_nil_of_length_eq_zero (by simpa using h.symm)
      subst e
      obtain ⟨x, c, rfl⟩ := hb.slice
      exact equal_none w _ _ _ _
    · rcases hb with ⟨x, c, rfl, rfl⟩ | ⟨g', f, c, rfl, _, hc⟩
      · have e : za = [] := List.eq_nil_of_length_eq_zero (by simpa using h)
        subst e
        exact equal_none w _ _ _ _
      · rw [← h]
        exact equal_at w g g' f cap c za.length za zb rfl h.symm hza (fun j hj => ha.cell j hj) (fun j hj => by
          have hj2 : j < zb.length := by omega
          rw [hc j zb[j] (List.getElem?_eq_getElem hj2), List.getElem?_eq_getElem hj2]
          rfl)
  · have e : decide (za = zb) = false := decide_eq_false (fun e => h (by rw [e]))
    rw [e]
    obtain ⟨x, c, rfl⟩ := hb.slice
    rcases ha.form with ⟨rfl, rfl⟩ | ⟨g, cap, rfl, h1, h2⟩
    · exact equal_len w _ _ _ _ _ _ (by simpa using h)
    · exact equal_len w _ _ _ _ _ _ h

set_option maxRecDepth 100000 in
set_option maxHeartbeats 4000000 in
theorem entryAt_row (w : World) (B g cap : Nat) (es : List Ent) (vl : Value) (l : List Int) (hE : Ents w B (.slice (some ⟨g, 0, none⟩) es.length cap) es) (hL : RowAt w vl l) (hn : es.length ≤ 1048576) (hr : ∀ e ∈ es, e.runes.length ≤ 1048576) :
    Calls Tryd.prog 37 #[.slice (some ⟨g, 0, none⟩) es.length cap, vl] w fun e w' => e = .returned (elRes (entOf es l)) ∧ Below w.heap.size w w' := by
  go_enter Tryd.func37, Tryd.ntmps37
  go_wp2
  go_loopw [10] (fun i wr => ERel w es l i wr) (fun i _ => es.length - (intOf i).toNat)
  case atStart => exact ⟨0, Nat.zero_le _, rfl, fun j e hj => by omega, heap_alloc_new _ _, (Below.refl _ _).alloc (Nat.le_refl _) _⟩
  case round =>
    obtain ⟨k, hk, rfl, HN0, hz, hb⟩ := hrel
    have HN : Hid (NoEnt es l k) := HN0
    clear HN0
    by_cases hlt : k < es.length
    · obtain ⟨e, he⟩ : ∃ e, es[k]? = some e := ⟨_, List.getElem?_eq_getElem hlt⟩
      obtain ⟨x, hI, a0, a1, a2, a3, a4⟩ := (hE.below hb).cells k e he
      obtain ⟨xa, xn, xc, rfl⟩ : ∃ xa xn xc, x = .slice xa xn xc := by
        rcases hI.form with ⟨rfl, _⟩ | ⟨_, _, rfl, _, _⟩
        · exact ⟨_, _, _, rfl⟩
        · exact ⟨_, _, _, rfl⟩
      have hk8 : (k : Int) < (es.length : Int) := by omega
      have hrl := hr e (List.mem_of_getElem? he)
      have hbr := (Below.refl wr.heap.size wr).alloc (Nat.le_refl _) (.cells #[.slice xa xn xc, .int .i64 e.el.first, .int .i64 e.el.second, .int .i64 e.el.third, .bool e.el.varies] 84)
      have hba := hb.trans (hbr.mono hb.size)
      have SM := equal_rowAt hrl (hI.below hbr) ((hL.below hb).below hbr)
      have HZ : Hid (Zel _ _) := hz.below hbr
      have hlt3 := hz.facts.1
      have HE : Hid _ := he
      clear he hI hE hL hr hz hbr
      go_wp2_with fail
      refine SM.mono ?_
      rintro e' w2 ⟨rfl, n2, rfl⟩
      clear SM a0 a1 a2 a3 a4
      by_cases c : e.runes = l
      · have HA : Hid (entOf es l = some e.el) := entOf_hit HN.out HE.out c
        have c' : decide (e.runes = l) = true := decide_eq_true c
        obtain ⟨hlt2, ⟨q0, q1, q2, q3⟩, f0⟩ := HZ.out.facts
        have hsz := hb.size
        clear HN HE c HZ
        go_wp2
        refine bodyPost_ret (v := .tuple #[.agg #[.int .i64 e.el.first, .int .i64 e.el.second, .int .i64 e.el.third, .bool e.el.varies], .bool true]) ?_ rfl ⟨ret_e HA.out, below_res1 (below_drewN hba n2) (Nat.le_refl _) _ _ _ _⟩
        rw [results_cell_tmp rfl]
        go_simp
      · have HN2 : Hid (NoEnt es l (k + 1)) := HN.out.succ HE.out c
        have c' : decide (e.runes = l) = false := decide_eq_false c
        clear HN HE c
        go_wp2
        exact ⟨⟨k + 1, by omega, by go_num, HN2.out, HZ.out, below_drewN hba n2⟩, by simp [intOf]; omega⟩
    · have HA : Hid (entOf es l = none) := entOf_none HN.out (by omega)
      obtain ⟨hlt2, ⟨q0, q1, q2, q3⟩, f0⟩ := hz.facts
      clear HN hE hr hz
      go_wp2
      refine bodyPost_ret (v := .tuple #[.agg #[.int .i64 0, .int .i64 0, .int .i64 0, .bool false], .bool false]) ?_ rfl ⟨ret_e0 HA.out, below_res1 hb (Nat.le_refl _) _ _ _ _⟩
      rw [results_cell_tmp rfl]
      go_simp

theorem entryAt_any {w : World} {B : Nat} {v vl : Value} {es : List Ent} {l : List Int} (hE : Ents w B v es) (hL : RowAt w vl l) (hn : es.length ≤ 1048576) (hr : ∀ e ∈ es, e.runes.length ≤ 1048576) :
    Calls Tryd.prog 37 #[v, vl] w fun e w' => e = .returned (elRes (entOf es l)) ∧ Below w.heap.size w w' := by
  rcases hE.form with ⟨rfl, rfl⟩ | ⟨g, cap, rfl, _, _, _, _⟩
  · exact entry_nil w vl l
  · exact entryAt_row w B g cap es vl l hE hL hn hr
end Go.Proofs.YtcmanfcgoapjjafDoor
