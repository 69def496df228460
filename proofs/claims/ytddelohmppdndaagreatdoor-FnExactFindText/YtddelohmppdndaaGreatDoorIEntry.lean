/- Contract of the program's elemOfEntry. -/
import Derived.Test.YtddelohmppdndaaGreatDoorIRule1
import Derived.Test.YtddelohmppdndaaGreatDoorIBase0
import Derived.Test.YtddelohmppdndaaGreatDoorPEnt
namespace Go.Proofs.YtddelohmppdndaaGreatDoor
open Go.RowKit

theorem entAll_take (xs : List Value) (es : List Ent) (k : Nat) : entAll (xs.take k) (es.take k) = (entAll xs es).take (k * 5) := by
  induction k generalizing xs es with
  | zero => simp [entAll]
  | succ k ih =>
    match xs, es with
    | [], _ => simp [entAll]
    | x :: xs, [] => simp [entAll]
    | x :: xs, e :: es =>
      show entC x e.el ++ entAll (xs.take k) (es.take k) = (entC x e.el ++ entAll xs es).take ((k + 1) * 5)
      have e1 : ((entC x e.el).take ((k + 1) * 5)) = entC x e.el := List.take_of_length_le (by show 5 ≤ _; omega)
      have e2 : (k + 1) * 5 - (entC x e.el).length = k * 5 := by show (k + 1) * 5 - 5 = _; omega
      rw [ih xs es, List.take_append, e1, e2]

theorem below_alloc_any (w : World) (o : Obj) : Below w.heap.size w (w.alloc o) := (Below.refl _ _).alloc (Nat.le_refl _) _

def ERel (w : World) (es : List Ent) (l : List Int) (i : Value) (wr : World) : Prop := ∃ k : Nat, k ≤ es.length ∧ i = .int .i64 k ∧ NoEnt es l k ∧ Zel wr w.heap.size ∧ Below w.heap.size w wr

set_option maxRecDepth 100000 in
set_option maxHeartbeats 4000000 in
theorem entry_row (w : World) (B B' g cap : Nat) (es : List Ent) (vl : Value) (l : List Int) (hE : Ents w B (.slice (some ⟨g, 0, none⟩) es.length cap) es) (hL : Ints w B' vl l) (hn : es.length ≤ 1048576) (hl : l.length ≤ 1048576) (hr : ∀ e ∈ es, e.runes.length ≤ 1048576) :
    Calls Tryz.prog 93 #[.slice (some ⟨g, 0, none⟩) es.length cap, vl] w fun e w' => e = .returned (elRes (entOf es l)) ∧ Below w.heap.size w w' := by
  go_enter Tryz.func93, Tryz.ntmps93
  go_wp2
  go_loopw [10] (fun i wr => ERel w es l i wr) (fun i _ => es.length - (intOf i).toNat)
  case atStart => exact ⟨0, Nat.zero_le _, rfl, fun j e hj => by omega, heap_alloc_new _ _, (Below.refl _ _).alloc (Nat.le_refl _) _⟩
  case round =>
    obtain ⟨k, hk, rfl, HN0, hz, hb⟩ := hrel
    have HN : Hid (NoEnt es l k) := HN0
    clear HN0
    by_cases hlt : k < es.length
    · obtain ⟨e, he⟩ : ∃ e, es[k]? = some e := ⟨_, List.getElem?_eq_getElem hlt⟩
      obtain ⟨x, hI, a0, a1, a2, a3, a4⟩ := (hE.below hb).cells k e he
      obtain ⟨xa, xn, xc, rfl⟩ : ∃ xa xn xc, x = .slice xa xn xc := by
        rcases hI.form with ⟨rfl, _⟩ | ⟨_, _, rfl, _, _⟩
        · exact ⟨_, _, _, rfl⟩
        · exact ⟨_, _, _, rfl⟩
      have hk8 : (k : Int) < (es.length : Int) := by omega
      have hrl := hr e (List.mem_of_getElem? he)
      have hbr := (Below.refl wr.heap.size wr).alloc (Nat.le_refl _) (.cells #[.slice xa xn xc, .int .i64 e.el.first, .int .i64 e.el.second, .int .i64 e.el.third, .bool e.el.varies] 69)
      have hba := hb.trans (hbr.mono hb.size)
      have SM := equal_any hrl hl (hI.below hbr) ((hL.below hb).below hbr)
      have HZ : Hid (Zel _ _) := hz.below hbr
      have hlt3 := hz.facts.1
      have HE : Hid _ := he
      clear he hI hE hL hr hz hbr
      go_wp2_with fail
      refine SM.mono ?_
      rintro e' w2 ⟨rfl, n2, rfl⟩
      clear SM a0 a1 a2 a3 a4
      by_cases c : e.runes = l
      · have HA : Hid (entOf es l = some e.el) := entOf_hit HN.out HE.out c
        have c' : decide (e.runes = l) = true := decide_eq_true c
        obtain ⟨hlt2, ⟨q0, q1, q2, q3⟩, f0⟩ := HZ.out.facts
        have hsz := hb.size
        clear HN HE c HZ
        go_wp2
        refine bodyPost_ret (v := .tuple #[.agg #[.int .i64 e.el.first, .int .i64 e.el.second, .int .i64 e.el.third, .bool e.el.varies], .bool true]) ?_ rfl ⟨ret_e HA.out, below_res1 (below_drewN hba n2) (Nat.le_refl _) _ _ _ _⟩
        rw [results_cell_tmp rfl]
        go_simp
      · have HN2 : Hid (NoEnt es l (k + 1)) := HN.out.succ HE.out c
        have c' : decide (e.runes = l) = false := decide_eq_false c
        clear HN HE c
        go_wp2
        exact ⟨⟨k + 1, by omega, by go_num, HN2.out, HZ.out, below_drewN hba n2⟩, by simp [intOf]; omega⟩
    · have HA : Hid (entOf es l = none) := entOf_none HN.out (by omega)
      obtain ⟨hlt2, ⟨q0, q1, q2, q3⟩, f0⟩ := hz.facts
      clear HN hE hr hz
      go_wp2
      refine bodyPost_ret (v := .tuple #[.agg #[.int .i64 0, .int .i64 0, .int .i64 0, .bool false], .bool false]) ?_ rfl ⟨ret_e0 HA.out, below_res1 hb (Nat.le_refl _) _ _ _ _⟩
      rw [results_cell_tmp rfl]
      go_simp

set_option maxRecDepth 100000 in
set_option maxHeartbeats 4000000 in
theorem entry_nil (w : World) (vl : Value) (l : List Int) :
    Calls Tryz.prog 93 #[.slice none 0 0, vl] w fun e w' => e = .returned (elRes (entOf [] l)) ∧ Below w.heap.size w w' := by
  have HA : Hid (entOf [] l = none) := rfl
  have hz : Zel (w.alloc (.cells #[.int .i64 0, .int .i64 0, .int .i64 0, .bool false] 67)) w.heap.size := heap_alloc_new _ _
  obtain ⟨hlt2, ⟨q0, q1, q2, q3⟩, f0⟩ := hz.facts
  clear hz
  go_enter Tryz.func93, Tryz.ntmps93
  go_wp2
  go_loop [10] (fun i => i = .int .i64 0) (fun _ => 0)
  case atStart => rfl
  case round =>
    subst hrel
    go_wp2
    refine bodyPost_ret (v := .tuple #[.agg #[.int .i64 0, .int .i64 0, .int .i64 0, .bool false], .bool false]) ?_ rfl ⟨ret_e0 HA.out, ?_⟩
    · rw [results_cell_tmp rfl]
      go_simp
    · exact below_alloc_any w _

theorem entry_any {w : World} {B B' : Nat} {v vl : Value} {es : List Ent} {l : List Int} (hE : Ents w B v es) (hL : Ints w B' vl l) (hn : es.length ≤ 1048576) (hl : l.length ≤ 1048576) (hr : ∀ e ∈ es, e.runes.length ≤ 1048576) :
    Calls Tryz.prog 93 #[v, vl] w fun e w' => e = .returned (elRes (entOf es l)) ∧ Below w.heap.size w w' := by
  rcases hE.form with ⟨rfl, rfl⟩ | ⟨g, cap, rfl, _, _, _, _⟩
  · exact entry_nil w vl l
  · exact entry_row w B B' g cap es vl l hE hL hn hl hr

/-- The first entries of a row are a row. -/
theorem Ents.take {w : World} {B g cap : Nat} {es : List Ent} (h : Ents w B (.slice (some ⟨g, 0, none⟩) es.length cap) es) (k : Nat) (hk : k ≤ es.length) : Ents w B (.slice (some ⟨g, 0, none⟩) k cap) (es.take k) := by
  obtain ⟨xs, hl, ⟨h1, h2⟩, h3⟩ := h
  have hlk : (es.take k).length = k := by rw [List.length_take]; omega
  refine ⟨xs.take k, by rw [List.length_take, List.length_take, hl], ?_, fun i e he => ?_⟩
  · have hcut : entAll (xs.take k) (es.take k) = (entAll xs es).take (k * 5) := entAll_take xs es k
    rcases h2 with ⟨a, b⟩ | ⟨g', cap', cur, a, b, c, d, e, f, f2⟩
    · cases a
    · refine ⟨by rw [entAll_len _ _ (by rw [List.length_take, List.length_take, hl])], ?_⟩
      rw [hlk]
      injection a with a1 a2 a3
      injection a1 with a4
      injection a4 with a5
      subst a5
      subst a3
      refine .inr ⟨g, cap, cur, rfl, b, c, by omega, e, f, ?_⟩
      rw [hcut, ← f2, List.take_take, Nat.min_eq_left (Nat.mul_le_mul_right 5 hk)]
  · have hik : i < k := by
      have := (List.getElem?_eq_some_iff.1 he).1
      omega
    rw [List.getElem?_take_of_lt hik] at he
    obtain ⟨x, hx, hI⟩ := h3 i e he
    exact ⟨x, by rw [List.getElem?_take_of_lt hik]; exact hx, hI⟩
end Go.Proofs.YtddelohmppdndaaGreatDoor
