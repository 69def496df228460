/- Contracts of the program's baseElem. -/
import Derived.Test.YtdnelneamnmcnafDoorIWeight
namespace Go.Proofs.YtdnelneamnmcnafDoor
open Go.RowKit

theorem base_cases (r : Int) : base r = [] ∨ (∃ e, base r = [e]) ∨ ∃ e f, base r = [e, f] := by
  have := base_len r
  match h : base r with
  | [] => exact .inl rfl
  | [e] => exact .inr (.inl ⟨e, rfl⟩)
  | [e, f] => exact .inr (.inr ⟨e, f, rfl⟩)
  | _ :: _ :: _ :: _ => rw [h] at this; simp at this

theorem base_first {r : Int} {e : El} (h : base r = [e]) : 0 ≤ e.first := by
  unfold base at h
  split at h
  · cases h; simp only; omega
  · split at h
    · cases h; simp
    · unfold baseRest at h
      split at h
      · cases h
      · split at h
        · cases h; simp only; omega
        · split at h
          · cases h; simp only; omega
          · split at h
            · cases h; simp only; omega
            · cases h

theorem one3_pos {e : El} (h : 0 < e.first) : one3 [e] = some e := if_neg (by omega)
theorem one3_zero {e : El} (h : 0 ≤ e.first) (h2 : ¬ 0 < e.first) : one3 [e] = none := if_pos (by omega)

/-- The result's block, still zero. -/
def Zel (u : World) (b : Nat) : Prop := u.heap[b]? = some (.cells #[.int .i64 0, .int .i64 0, .int .i64 0, .bool false] 28)
theorem Zel.facts {u : World} {b : Nat} (h : Zel u b) : b < u.heap.size ∧ (u.cell? ⟨b, 0, none⟩ = some (.int .i64 0) ∧ u.cell? ⟨b, 1, none⟩ = some (.int .i64 0) ∧ u.cell? ⟨b, 2, none⟩ = some (.int .i64 0) ∧ u.cell? ⟨b, 3, none⟩ = some (.bool false)) ∧ ∀ j, u.frozen? ⟨b, j, none⟩ = false :=
  ⟨(Array.getElem?_eq_some_iff.1 h).1, ⟨cell_of_row _ _ 0 _ _ _ h, cell_of_row _ _ 1 _ _ _ h, cell_of_row _ _ 2 _ _ _ h, cell_of_row _ _ 3 _ _ _ h⟩, fun j => by simp [World.frozen?, show u.heap[b]? = _ from h]⟩
theorem Zel.below {u u' : World} {b : Nat} (h : Zel u b) (hb : Below u.heap.size u u') : Zel u' b := (hb.block _ h.facts.1).trans h

theorem below_res1 {w wr : World} {b : Nat} (h : Below w.heap.size w wr) (hb : w.heap.size ≤ b) (x y z t : Value) : Below w.heap.size w ((((wr.setCell ⟨b, 0, none⟩ x).setCell ⟨b, 1, none⟩ y).setCell ⟨b, 2, none⟩ z).setCell ⟨b, 3, none⟩ t) :=
  (((h.setCell hb _).setCell hb _).setCell hb _).setCell hb _

theorem below_res1a {w wr : World} (h : Below w.heap.size w wr) (x y z t : Value) (o : Obj) : Below w.heap.size w (((((wr.setCell ⟨w.heap.size, 0, none⟩ x).setCell ⟨w.heap.size, 1, none⟩ y).setCell ⟨w.heap.size, 2, none⟩ z).setCell ⟨w.heap.size, 3, none⟩ t).alloc o) :=
  (below_res1 h (Nat.le_refl _) x y z t).alloc (below_res1 h (Nat.le_refl _) x y z t).size _

set_option maxRecDepth 100000 in
set_option maxHeartbeats 4000000 in
theorem baseElem_any (r : Int) (h0 : 0 ≤ r) (h1 : r ≤ 1114111) (hs : ¬ (55296 ≤ r ∧ r ≤ 57343)) (w : World) (hm : Held w 0 marksF) :
    Calls Tryd.prog 20 #[.int .i64 r] w fun e w' => e = .returned (elRes (one3 (base r))) ∧ Below w.heap.size w w' := by
  have hba := (Below.refl w.heap.size w).alloc (Nat.le_refl _) (.cells #[.int .i64 0, .int .i64 0, .int .i64 0, .bool false] 28)
  have hx : Zel (w.alloc (.cells #[.int .i64 0, .int .i64 0, .int .i64 0, .bool false] 28)) w.heap.size := heap_alloc_new _ _
  have W := weight_any r h0 h1 hs _ (hm.below hba hm.lt)
  clear hm hs h0 h1
  rcases base_cases r with hb | ⟨e, hb⟩ | ⟨e, f, hb⟩
  · rw [hb] at W ⊢
    unfold wtV at W
    have HO : Hid (one3 [] = none) := rfl
    have ta : ∀ w, (Instr.typeAssert (.iface 76 (.agg #[])) 65 62 true).run Tryd.prog w = .ok (.tuple #[.agg #[.int .i64 0, .int .i64 0, .int .i64 0, .bool false], .bool false]) w := fun _ => by kernel_rfl
    clear hb
    go_enter Tryd.func20, Tryd.ntmps20
    go_wp2_with fail
    refine W.mono ?_
    rintro e' w2 ⟨rfl, b2⟩
    have hb4 := hba.trans (b2.mono hba.size)
    obtain ⟨hlt, ⟨q0, q1, q2, q3⟩, f0⟩ := (hx.below b2).facts
    clear W hx b2 hba
    go_wp2
    refine bodyPost_ret (v := .tuple #[.agg #[.int .i64 0, .int .i64 0, .int .i64 0, .bool false], .bool false]) ?_ rfl ⟨ret_e0 HO.out, below_res1a hb4 _ _ _ _ _⟩
    rw [results_cell_tmp rfl]
    go_simp

  · have hf := base_first hb
    rw [hb] at W ⊢
    unfold wtV at W
    have ta : ∀ w, (Instr.typeAssert (.iface 62 (.agg #[.int .i64 e.first, .int .i64 e.second, .int .i64 e.third, .bool e.varies])) 65 62 true).run Tryd.prog w = .ok (.tuple #[.agg #[.int .i64 e.first, .int .i64 e.second, .int .i64 e.third, .bool e.varies], .bool true]) w := fun _ => by kernel_rfl
    clear hb
    by_cases hz : 0 < e.first
    · have HO : Hid (one3 [e] = some e) := one3_pos hz
      go_enter Tryd.func20, Tryd.ntmps20
      go_wp2_with fail
      refine W.mono ?_
      rintro e' w2 ⟨rfl, b2⟩
      have hb4 := hba.trans (b2.mono hba.size)
      obtain ⟨hlt, ⟨q0, q1, q2, q3⟩, f0⟩ := (hx.below b2).facts
      clear W hx b2 hba
      go_wp2
      refine bodyPost_ret (v := .tuple #[.agg #[.int .i64 e.first, .int .i64 e.second, .int .i64 e.third, .bool e.varies], .bool true]) ?_ rfl ⟨ret_e HO.out, below_res1a hb4 _ _ _ _ _⟩
      rw [results_cell_tmp rfl]
      go_simp
    · have HO : Hid (one3 [e] = none) := one3_zero hf hz
      go_enter Tryd.func20, Tryd.ntmps20
      go_wp2_with fail
      refine W.mono ?_
      rintro e' w2 ⟨rfl, b2⟩
      have hb4 := hba.trans (b2.mono hba.size)
      obtain ⟨hlt, ⟨q0, q1, q2, q3⟩, f0⟩ := (hx.below b2).facts
      clear W hx b2 hba
      go_wp2
      refine bodyPost_ret (v := .tuple #[.agg #[.int .i64 0, .int .i64 0, .int .i64 0, .bool false], .bool false]) ?_ rfl ⟨ret_e0 HO.out, below_res1a hb4 _ _ _ _ _⟩
      rw [results_cell_tmp rfl]
      go_simp

  · rw [hb] at W ⊢
    unfold wtV at W
    have HO : Hid (one3 [e, f] = none) := rfl
    have ta : ∀ w, (Instr.typeAssert (.iface 83 (.agg #[.int .i64 e.first, .int .i64 e.second, .int .i64 e.third, .bool e.varies, .int .i64 f.first, .int .i64 f.second, .int .i64 f.third, .bool f.varies])) 65 62 true).run Tryd.prog w = .ok (.tuple #[.agg #[.int .i64 0, .int .i64 0, .int .i64 0, .bool false], .bool false]) w := fun _ => by kernel_rfl
    clear hb
    go_enter Tryd.func20, Tryd.ntmps20
    go_wp2_with fail
    refine W.mono ?_
    rintro e' w2 ⟨rfl, b2⟩
    have hb4 := hba.trans (b2.mono hba.size)
    obtain ⟨hlt, ⟨q0, q1, q2, q3⟩, f0⟩ := (hx.below b2).facts
    clear W hx b2 hba
    go_wp2
    refine bodyPost_ret (v := .tuple #[.agg #[.int .i64 0, .int .i64 0, .int .i64 0, .bool false], .bool false]) ?_ rfl ⟨ret_e0 HO.out, below_res1a hb4 _ _ _ _ _⟩
    rw [results_cell_tmp rfl]
    go_simp
end Go.Proofs.YtdnelneamnmcnafDoor
