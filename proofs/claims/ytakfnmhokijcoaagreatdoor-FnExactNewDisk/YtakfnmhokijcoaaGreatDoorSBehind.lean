/- Contract of the specification's l3Behind, level 1. -/
import Derived.Test.YtakfnmhokijcoaaGreatDoorResC
import Derived.Test.YtakfnmhokijcoaaGreatDoorSFree
namespace Go.Proofs.YtakfnmhokijcoaaGreatDoor
open Go.RowKit

/-- The least free first weight from one on (65536 is free). -/
def step1 (es : List Ent) : Nat → Int → Int
  | 0, n => n
  | f + 1, n => if freeE es n = true then n else step1 es f (n + 1)

theorem step1_free {es : List Ent} {f : Nat} {n : Int} (h : freeE es n = true) : step1 es f n = n := by
  cases f with
  | zero => rfl
  | succ f => exact if_pos h

theorem step1_next {es : List Ent} {n : Int} (h : freeE es n = false) (hn : n < 65536) : step1 es (65536 - n).toNat n = step1 es (65536 - (n + 1)).toNat (n + 1) := by
  rw [show (65536 - n).toNat = (65536 - (n + 1)).toNat + 1 by omega]
  exact if_neg (by simp [h])

theorem free_top {es : List Ent} (hF : ∀ e ∈ es, e.el.first ≤ 65535) : freeE es 65536 = true := by
  unfold freeE
  rw [show takenB 65536 = false by decide, Bool.not_false, Bool.true_and, List.all_eq_true]
  intro x hx
  have := hF x hx
  simp; omega

/-- The blocks of the rules, of the elem and of the result, still zero. -/
def Box5 (u : World) (s : Nat) (v : Value) (sh : Bool) (lv : Int) (e : El) : Prop := u.heap[s]? = some (.cells #[v, .bool sh, .int .i64 lv] 32) ∧ u.heap[s + 1]? = some (.cells #[.int .i64 e.first, .int .i64 e.second, .int .i64 e.third, .bool e.varies] 41) ∧ u.heap[s + 1 + 1]? = some (.cells #[.int .i64 0, .int .i64 0, .int .i64 0, .bool false] 41)

theorem Box5.sizes {u : World} {s : Nat} {v : Value} {sh : Bool} {lv : Int} {e : El} (h : Box5 u s v sh lv e) : s < u.heap.size ∧ s + 1 < u.heap.size ∧ s + 1 + 1 < u.heap.size :=
  ⟨(Array.getElem?_eq_some_iff.1 h.1).1, (Array.getElem?_eq_some_iff.1 h.2.1).1, (Array.getElem?_eq_some_iff.1 h.2.2).1⟩

theorem Box5.rules {u : World} {s : Nat} {v : Value} {sh : Bool} {lv : Int} {e : El} (h : Box5 u s v sh lv e) : u.cell? ⟨s, 0, none⟩ = some v ∧ u.cell? ⟨s, 1, none⟩ = some (.bool sh) ∧ u.cell? ⟨s, 2, none⟩ = some (.int .i64 lv) :=
  ⟨cell_of_row _ _ 0 _ _ _ h.1, cell_of_row _ _ 1 _ _ _ h.1, cell_of_row _ _ 2 _ _ _ h.1⟩

theorem Box5.elem {u : World} {s : Nat} {v : Value} {sh : Bool} {lv : Int} {e : El} (h : Box5 u s v sh lv e) : u.cell? ⟨s + 1, 0, none⟩ = some (.int .i64 e.first) ∧ u.cell? ⟨s + 1, 1, none⟩ = some (.int .i64 e.second) ∧ u.cell? ⟨s + 1, 2, none⟩ = some (.int .i64 e.third) ∧ u.cell? ⟨s + 1, 3, none⟩ = some (.bool e.varies) :=
  ⟨cell_of_row _ _ 0 _ _ _ h.2.1, cell_of_row _ _ 1 _ _ _ h.2.1, cell_of_row _ _ 2 _ _ _ h.2.1, cell_of_row _ _ 3 _ _ _ h.2.1⟩

theorem Box5.result {u : World} {s : Nat} {v : Value} {sh : Bool} {lv : Int} {e : El} (h : Box5 u s v sh lv e) : u.cell? ⟨s + 1 + 1, 0, none⟩ = some (.int .i64 0) ∧ u.cell? ⟨s + 1 + 1, 1, none⟩ = some (.int .i64 0) ∧ u.cell? ⟨s + 1 + 1, 2, none⟩ = some (.int .i64 0) ∧ u.cell? ⟨s + 1 + 1, 3, none⟩ = some (.bool false) ∧ ∀ j, u.frozen? ⟨s + 1 + 1, j, none⟩ = false :=
  ⟨cell_of_row _ _ 0 _ _ _ h.2.2, cell_of_row _ _ 1 _ _ _ h.2.2, cell_of_row _ _ 2 _ _ _ h.2.2, cell_of_row _ _ 3 _ _ _ h.2.2, fun j => by simp [World.frozen?, h.2.2]⟩

theorem Box5.below {u u' : World} {s : Nat} {v : Value} {sh : Bool} {lv : Int} {e : El} (h : Box5 u s v sh lv e) (hb : Below u.heap.size u u') : Box5 u' s v sh lv e := by
  have hf := h.sizes
  exact ⟨by rw [hb.block _ hf.1]; exact h.1, by rw [hb.block _ hf.2.1]; exact h.2.1, by rw [hb.block _ hf.2.2]; exact h.2.2⟩

theorem box5_new (w : World) (v : Value) (sh : Bool) (lv : Int) (e : El) : Box5 (((w.alloc (.cells #[v, .bool sh, .int .i64 lv] 32)).alloc (.cells #[.int .i64 e.first, .int .i64 e.second, .int .i64 e.third, .bool e.varies] 41)).alloc (.cells #[.int .i64 0, .int .i64 0, .int .i64 0, .bool false] 41)) w.heap.size v sh lv e := by
  refine ⟨?_, ?_, ?_⟩
  · rw [Below.heap_alloc _ _ _ (by simp; omega), Below.heap_alloc _ _ _ (by simp)]; exact heap_alloc_new w _
  · rw [Below.heap_alloc _ _ _ (by simp)]; exact heap_alloc2_new w _ _
  · have := heap_alloc_new ((w.alloc (.cells #[v, .bool sh, .int .i64 lv] 32)).alloc (.cells #[.int .i64 e.first, .int .i64 e.second, .int .i64 e.third, .bool e.varies] 41)) (.cells #[.int .i64 0, .int .i64 0, .int .i64 0, .bool false] 41)
    simpa using this

theorem below_new5 (w : World) (v : Value) (sh : Bool) (lv : Int) (e : El) : Below w.heap.size w (((w.alloc (.cells #[v, .bool sh, .int .i64 lv] 32)).alloc (.cells #[.int .i64 e.first, .int .i64 e.second, .int .i64 e.third, .bool e.varies] 41)).alloc (.cells #[.int .i64 0, .int .i64 0, .int .i64 0, .bool false] 41)) :=
  (((Below.refl w.heap.size w).alloc (Nat.le_refl _) _).alloc (by simp) _).alloc (by simp; omega) _

theorem below_res5 {w wr : World} (h : Below w.heap.size w wr) (x y z t : Value) : Below w.heap.size w ((((wr.setCell ⟨w.heap.size + 1 + 1, 0, none⟩ x).setCell ⟨w.heap.size + 1 + 1, 1, none⟩ y).setCell ⟨w.heap.size + 1 + 1, 2, none⟩ z).setCell ⟨w.heap.size + 1 + 1, 3, none⟩ t) :=
  (((h.setCell (show w.heap.size ≤ w.heap.size + 1 + 1 by omega) _).setCell (show w.heap.size ≤ w.heap.size + 1 + 1 by omega) _).setCell (show w.heap.size ≤ w.heap.size + 1 + 1 by omega) _).setCell (show w.heap.size ≤ w.heap.size + 1 + 1 by omega) _

def B1Rel (w : World) (v : Value) (sh : Bool) (lv : Int) (e : El) (es : List Ent) (N : Int) (i : Value) (wr : World) : Prop := ∃ m : Int, i = .int .i64 m ∧ 0 ≤ m ∧ m ≤ 65536 ∧ step1 es (65536 - m).toNat m = N ∧ Box5 wr w.heap.size v sh lv e ∧ Below w.heap.size w wr

set_option maxRecDepth 100000 in
set_option maxHeartbeats 4000000 in
theorem behind1_any {w : World} {B : Nat} {v : Value} {es : List Ent} {sh : Bool} {lv : Int} {e : El} (hE : Ents w B v es) (hn : es.length ≤ 1048576) (hF : ∀ e ∈ es, e.el.first ≤ 65535) (h0 : 0 ≤ e.first) (h1 : e.first ≤ 65535) :
    Calls Tryz.prog 22 #[.agg #[v, .bool sh, .int .i64 lv], .agg #[.int .i64 e.first, .int .i64 e.second, .int .i64 e.third, .bool e.varies], .int .i64 1] w fun x w' => x = .returned (elV ⟨step1 es (65535 - e.first).toNat (e.first + 1), 32, 2, false⟩) ∧ Below w.heap.size w w' := by
  have HB : Hid (Below _ _ _) := below_new5 w v sh lv e
  have HX : Hid (Box5 _ _ _ _ _ _) := box5_new w v sh lv e
  have HE : Hid (Ents _ _ _ _) := hE
  obtain ⟨N, HS⟩ : ∃ N, Hid (step1 es (65535 - e.first).toNat (e.first + 1) = N) := ⟨_, rfl⟩
  rw [HS.out]
  have HS2 : Hid (step1 es (65536 - (e.first + 1)).toNat (e.first + 1) = N) := by
    show _ = _
    rw [show 65536 - (e.first + 1) = 65535 - e.first by omega]; exact HS.out
  clear hE HS
  go_enter Tryz.func22, Tryz.ntmps22
  go_wp2_with fail
  go_loopw [7] (fun i wr => B1Rel w v sh lv e es N i wr) (fun i _ => (65536 - intOf i).toNat)
  case atStart => exact ⟨e.first + 1, rfl, by omega, by omega, HS2.out, HX.out, HB.out⟩
  case round =>
    clear HS2 HX HB
    obtain ⟨m, rfl, m0, m1, hs, hx, hb⟩ := hrel
    have HS : Hid (step1 es (65536 - m).toNat m = N) := hs
    have FR := free_any (sh := sh) (lv := lv) (n := m) (HE.out.below hb) hn m0 (by omega)
    obtain ⟨p0, p1, p2⟩ := hx.rules
    have HX : Hid (Box5 _ _ _ _ _ _) := hx
    have HB : Hid (Below _ _ _) := hb
    clear hs hx hb HE
    go_wp2_with fail
    refine FR.mono ?_
    rintro e' w2 ⟨rfl, b2⟩
    have hx2 := HX.out.below b2
    have c2 := HB.out.trans (b2.mono HB.out.size)
    clear FR p0 p1 p2 b2 HX HB
    cases hf : freeE es m
    · have hm : m < 65536 := by
        by_cases c : m = 65536
        · subst c; rw [free_top hF] at hf; cases hf
        · omega
      have HS3 : Hid (step1 es (65536 - (m + 1)).toNat (m + 1) = N) := (step1_next hf hm).symm.trans HS.out
      clear HS hf hF
      have HX2 : Hid (Box5 _ _ _ _ _ _) := hx2
      clear hx2
      go_wp2
      exact ⟨⟨m + 1, by go_num, by omega, by omega, HS3.out, HX2.out, c2⟩, by simp [intOf]; omega⟩
    · have hN : m = N := (step1_free hf).symm.trans HS.out
      subst hN
      obtain ⟨q0, q1, q2, q3, f0⟩ := hx2.result
      obtain ⟨n0, n1, n2⟩ := hx2.sizes
      clear HS hf hF hx2
      go_wp2
      refine bodyPost_ret (v := .agg #[.int .i64 m, .int .i64 32, .int .i64 2, .bool false]) ?_ rfl ⟨rfl, below_res5 c2 _ _ _ _⟩
      rw [results_cell1 rfl]
      go_simp
end Go.Proofs.YtakfnmhokijcoaaGreatDoor
