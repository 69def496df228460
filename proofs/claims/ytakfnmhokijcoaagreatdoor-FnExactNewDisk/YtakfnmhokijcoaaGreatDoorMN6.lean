/- Texts of mine laid together: IBehind, IPut, IRead. -/
import Derived.Test.YtakfnmhokijcoaaGreatDoorMN5
import Derived.Test.YtakfnmhokijcoaaGreatDoorRdBox
import Derived.Deep.RegionWith
import Derived.Deep.Cut
import Derived.Deep.CutRange
import Derived.BigRegion
import Derived.Deep.RegionLaw
import Derived.Deep.AppendLies
import Derived.WalkMore
import Derived.ScopeJumps
namespace Go.Proofs.YtakfnmhokijcoaaGreatDoor
open Go.RowKit

/-- The elem's block and the result's, still zero. -/
def Box6 (u : World) (s : Nat) (e : El) : Prop := u.heap[s]? = some (.cells #[.int .i64 e.first, .int .i64 e.second, .int .i64 e.third, .bool e.varies] 41) ∧ u.heap[s + 1]? = some (.cells #[.int .i64 0, .int .i64 0, .int .i64 0, .bool false] 41)
theorem Box6.sizes {u : World} {s : Nat} {e : El} (h : Box6 u s e) : s < u.heap.size ∧ s + 1 < u.heap.size := ⟨(Array.getElem?_eq_some_iff.1 h.1).1, (Array.getElem?_eq_some_iff.1 h.2).1⟩
theorem Box6.elem {u : World} {s : Nat} {e : El} (h : Box6 u s e) : u.cell? ⟨s, 0, none⟩ = some (.int .i64 e.first) ∧ u.cell? ⟨s, 1, none⟩ = some (.int .i64 e.second) ∧ u.cell? ⟨s, 2, none⟩ = some (.int .i64 e.third) ∧ u.cell? ⟨s, 3, none⟩ = some (.bool e.varies) :=
  ⟨cell_of_row _ _ 0 _ _ _ h.1, cell_of_row _ _ 1 _ _ _ h.1, cell_of_row _ _ 2 _ _ _ h.1, cell_of_row _ _ 3 _ _ _ h.1⟩
theorem Box6.result {u : World} {s : Nat} {e : El} (h : Box6 u s e) : u.cell? ⟨s + 1, 0, none⟩ = some (.int .i64 0) ∧ u.cell? ⟨s + 1, 1, none⟩ = some (.int .i64 0) ∧ u.cell? ⟨s + 1, 2, none⟩ = some (.int .i64 0) ∧ u.cell? ⟨s + 1, 3, none⟩ = some (.bool false) ∧ ∀ j, u.frozen? ⟨s + 1, j, none⟩ = false :=
  ⟨cell_of_row _ _ 0 _ _ _ h.2, cell_of_row _ _ 1 _ _ _ h.2, cell_of_row _ _ 2 _ _ _ h.2, cell_of_row _ _ 3 _ _ _ h.2, fun j => by simp [World.frozen?, h.2]⟩
theorem Box6.below {u u' : World} {s : Nat} {e : El} (h : Box6 u s e) (hb : Below u.heap.size u u') : Box6 u' s e := by
  have hf := h.sizes
  exact ⟨by rw [hb.block _ hf.1]; exact h.1, by rw [hb.block _ hf.2]; exact h.2⟩
theorem box6_new (w : World) (e : El) : Box6 ((w.alloc (.cells #[.int .i64 e.first, .int .i64 e.second, .int .i64 e.third, .bool e.varies] 41)).alloc (.cells #[.int .i64 0, .int .i64 0, .int .i64 0, .bool false] 41)) w.heap.size e :=
  ⟨by rw [Below.heap_alloc _ _ _ (by simp)]; exact heap_alloc_new w _, heap_alloc2_new w _ _⟩
theorem below_new6 (w : World) (e : El) : Below w.heap.size w ((w.alloc (.cells #[.int .i64 e.first, .int .i64 e.second, .int .i64 e.third, .bool e.varies] 41)).alloc (.cells #[.int .i64 0, .int .i64 0, .int .i64 0, .bool false] 41)) :=
  ((Below.refl w.heap.size w).alloc (Nat.le_refl _) _).alloc (by simp) _

theorem free_taken1 {es : List Ent} {m : Int} (h : takenB m = true) : freeE es m = false := by unfold freeE; rw [h]; rfl
theorem free_has {es : List Ent} {m : Int} (h : takenB m = false) : freeE es m = !hasQ es (q1 m) := by
  unfold freeE hasQ q1
  rw [h, Bool.not_false, Bool.true_and, List.not_any_eq_all_not]
  rfl

def B1i (w : World) (e : El) (es : List Ent) (N : Int) (i : Value) (wr : World) : Prop := ∃ m : Int, i = .int .i64 m ∧ 0 ≤ m ∧ m ≤ 65536 ∧ step1 es (65536 - m).toNat m = N ∧ Box6 wr w.heap.size e ∧ Below w.heap.size w wr

set_option maxRecDepth 100000 in
set_option maxHeartbeats 8000000 in
theorem behind1i_any {w : World} {B : Nat} {v : Value} {es : List Ent} {e : El} (hE : Ents w B v es) (hn : es.length ≤ 1048576) (hF : ∀ e ∈ es, e.el.first ≤ 65535) (h0 : 0 ≤ e.first) (h1 : e.first ≤ 65535) (hm : Held w 1 marksF) :
    Calls Tryz.prog 50 #[v, .agg #[.int .i64 e.first, .int .i64 e.second, .int .i64 e.third, .bool e.varies], .int .i64 1] w fun x w' => x = .returned (elV ⟨step1 es (65535 - e.first).toNat (e.first + 1), 32, 2, false⟩) ∧ Below w.heap.size w w' := by
  have HB : Hid (Below _ _ _) := below_new6 w e
  have HX : Hid (Box6 _ _ _) := box6_new w e
  have HE : Hid (Ents _ _ _ _) := hE
  have HM : Hid (Held w 1 marksF) := hm
  have P := fun n w => plainElem_any n w
  obtain ⟨N, HS⟩ : ∃ N, Hid (step1 es (65535 - e.first).toNat (e.first + 1) = N) := ⟨_, rfl⟩
  rw [HS.out]
  have HS2 : Hid (step1 es (65536 - (e.first + 1)).toNat (e.first + 1) = N) := by
    show _ = _
    rw [show 65536 - (e.first + 1) = 65535 - e.first by omega]; exact HS.out
  clear hE HS hm
  go_enter Tryz.func50, Tryz.ntmps50
  go_wp2_with fail
  go_loopw [7] (fun i wr => B1i w e es N i wr) (fun i _ => (65536 - intOf i).toNat)
  case atStart => exact ⟨e.first + 1, rfl, by omega, by omega, HS2.out, HX.out, HB.out⟩
  case round =>
    clear HS2 HX HB
    obtain ⟨m, rfl, m0, m1, hs, hx, hb⟩ := hrel
    have HS : Hid (step1 es (65536 - m).toNat m = N) := hs
    have IB := isBase_any m wr (HM.out.below hb HM.out.lt)
    have HX : Hid (Box6 _ _ _) := hx
    have HB : Hid (Below _ _ _) := hb
    have HE2 : Hid (Ents _ _ _ _) := HE.out.below hb
    clear hs hx hb HE HM
    go_wp2_with fail
    refine IB.mono ?_
    rintro e' w2 ⟨rfl, b2⟩
    have HX2 : Hid (Box6 _ _ _) := HX.out.below b2
    have HB2 : Hid (Below _ _ _) := HB.out.trans (b2.mono HB.out.size)
    have H1 := has1_any m (HE2.out.below b2) hn
    clear IB b2 HX HB HE2
    cases ht : takenB m
    · cases hf : hasQ es (q1 m)
      · rw [hf] at H1
        have hfree : freeE es m = true := by rw [free_has ht, hf]; rfl
        have hN : m = N := (step1_free hfree).symm.trans HS.out
        subst hN
        clear HS hF hfree hf ht
        go_wp2_with fail
        refine H1.mono ?_
        rintro e' w3 ⟨rfl, b3⟩
        have HX3 : Hid (Box6 _ _ _) := HX2.out.below b3
        have HB3 : Hid (Below _ _ _) := HB2.out.trans (b3.mono HB2.out.size)
        clear H1 b3 HX2 HB2
        go_wp2_with fail
        refine (P _ _).mono ?_
        rintro e' w4 ⟨rfl, b4⟩
        have hx4 := HX3.out.below b4
        have c4 := HB3.out.trans (b4.mono HB3.out.size)
        obtain ⟨q0, q1, q2, q3, f0⟩ := hx4.result
        obtain ⟨n0, n1⟩ := hx4.sizes
        clear P hx4 HX3 HB3 b4
        go_wp2
        refine bodyPost_ret (v := .agg #[.int .i64 m, .int .i64 32, .int .i64 2, .bool false]) ?_ rfl ⟨rfl, below_res4 c4 _ _ _ _⟩
        rw [results_cell1 rfl]
        go_simp
      · rw [hf] at H1
        have hfree : freeE es m = false := by rw [free_has ht, hf]; rfl
        have hm2 : m < 65536 := by
          by_cases c : m = 65536
          · subst c; rw [free_top hF] at hfree; cases hfree
          · omega
        have HS3 : Hid (step1 es (65536 - (m + 1)).toNat (m + 1) = N) := (step1_next hfree hm2).symm.trans HS.out
        clear HS hF hfree hf ht P
        go_wp2_with fail
        refine H1.mono ?_
        rintro e' w3 ⟨rfl, b3⟩
        have HX3 : Hid (Box6 _ _ _) := HX2.out.below b3
        have HB3 : Hid (Below _ _ _) := HB2.out.trans (b3.mono HB2.out.size)
        clear H1 b3 HX2 HB2
        go_wp2
        exact ⟨⟨m + 1, by go_num, by omega, by omega, HS3.out, HX3.out, HB3.out⟩, by simp [intOf]; omega⟩
    · have hfree : freeE es m = false := free_taken1 ht
      have hm2 : m < 65536 := by
        by_cases c : m = 65536
        · subst c; rw [free_top hF] at hfree; cases hfree
        · omega
      have HS3 : Hid (step1 es (65536 - (m + 1)).toNat (m + 1) = N) := (step1_next hfree hm2).symm.trans HS.out
      clear HS hF hfree ht P H1
      go_wp2
      exact ⟨⟨m + 1, by go_num, by omega, by omega, HS3.out, HX2.out, HB2.out⟩, by simp [intOf]; omega⟩

def B2i (w : World) (e : El) (es : List Ent) (N : Int) (i : Value) (wr : World) : Prop := ∃ m : Int, i = .int .i64 m ∧ 0 ≤ m ∧ m ≤ 1000 ∧ Left (fun n => hasQ es (q2 e n)) nx2 999 m N ∧ Box6 wr w.heap.size e ∧ Below w.heap.size w wr

theorem hasQ_le {es : List Ent} {q : El → Bool} (h : hasQ es q = true) : ∃ x ∈ es, q x.el = true := List.any_eq_true.1 h

set_option maxRecDepth 100000 in
set_option maxHeartbeats 8000000 in
theorem behind2i_any {w : World} {B : Nat} {v : Value} {es : List Ent} {e : El} (hE : Ents w B v es) (hn : es.length ≤ 1048576) (hF : ∀ x ∈ es, x.el.second ≤ 999) (h0 : 0 ≤ e.second) (h1 : e.second ≤ 999) :
    Calls Tryz.prog 50 #[v, .agg #[.int .i64 e.first, .int .i64 e.second, .int .i64 e.third, .bool e.varies], .int .i64 2] w fun x w' => x = .returned (elV (behind2 es e)) ∧ Below w.heap.size w w' := by
  have HB : Hid (Below _ _ _) := below_new6 w e
  have HX : Hid (Box6 _ _ _) := box6_new w e
  have HE : Hid (Ents _ _ _ _) := hE
  unfold behind2
  obtain ⟨N, HS⟩ : ∃ N, Hid (stepN (fun n => hasQ es (q2 e n)) nx2 1001 (e.second + 1) = N) := ⟨_, rfl⟩
  rw [HS.out]
  have HS2 : Hid (Left (fun n => hasQ es (q2 e n)) nx2 999 (e.second + 1) N) := ⟨1001, by omega, HS.out⟩
  clear hE HS
  go_enter Tryz.func50, Tryz.ntmps50
  go_wp2_with fail
  go_loopw [8] (fun i wr => B2i w e es N i wr) (fun i _ => (1000 - intOf i).toNat)
  case atStart => exact ⟨e.second + 1, rfl, by omega, by omega, HS2.out, HX.out, HB.out⟩
  case round =>
    clear HS2 HX HB
    obtain ⟨m, rfl, m0, m1, hs, hx, hb⟩ := hrel
    have HS : Hid (Left _ _ _ _ _) := hs
    have H2 := has2_any e.first m (HE.out.below hb) hn
    obtain ⟨e0, e1, e2, e3⟩ := hx.elem
    have HX : Hid (Box6 _ _ _) := hx
    have HB : Hid (Below _ _ _) := hb
    clear hs hx hb HE
    cases hf : hasQ es (q2' e.first m)
    · rw [hf] at H2
      have hN : m = N := HS.out.last hf
      subst hN
      clear HS hF hf
      go_wp2_with fail
      refine H2.mono ?_
      rintro e' w3 ⟨rfl, b3⟩
      have hx3 := HX.out.below b3
      have c3 := HB.out.trans (b3.mono HB.out.size)
      clear H2 b3 HX HB e0 e1 e2 e3
      obtain ⟨e0, e1, e2, e3⟩ := hx3.elem
      obtain ⟨q0, q1, q2, q3, f0⟩ := hx3.result
      obtain ⟨n0, n1⟩ := hx3.sizes
      clear hx3
      go_wp2
      refine bodyPost_ret (v := .agg #[.int .i64 e.first, .int .i64 m, .int .i64 2, .bool false]) ?_ rfl ⟨rfl, below_res4 c3 _ _ _ _⟩
      rw [results_cell1 rfl]
      go_simp
    · rw [hf] at H2
      have hm2 : m ≤ 999 := by
        obtain ⟨x, hx, hq⟩ := hasQ_le hf
        unfold q2' at hq
        rw [Bool.and_eq_true] at hq
        have := hF x hx
        have := eq_of_beq hq.2
        omega
      have HS3 : Hid (Left (fun n => hasQ es (q2 e n)) nx2 999 (m + 1) N) := HS.out.next hf hm2 (by unfold nx2; omega)
      clear HS hF hf
      go_wp2_with fail
      refine H2.mono ?_
      rintro e' w3 ⟨rfl, b3⟩
      have HX3 : Hid (Box6 _ _ _) := HX.out.below b3
      have HB3 : Hid (Below _ _ _) := HB.out.trans (b3.mono HB.out.size)
      clear H2 b3 HX HB e0 e1 e2 e3
      go_wp2
      exact ⟨⟨m + 1, by go_num, by omega, by omega, HS3.out, HX3.out, HB3.out⟩, by simp [intOf]; omega⟩

/-- Where the program stands at 8 it goes on by one. -/
def B3i (w : World) (e : El) (es : List Ent) (N : Int) (i : Value) (wr : World) : Prop := ∃ m : Int, i = .int .i64 m ∧ 0 ≤ m ∧ m ≤ 100 ∧ Left (fun n => hasQ es (q3 e n)) nx3 99 (if m = 8 then 9 else m) N ∧ Box6 wr w.heap.size e ∧ Below w.heap.size w wr

set_option maxRecDepth 100000 in
set_option maxHeartbeats 8000000 in
theorem behind3i_any {w : World} {B : Nat} {v : Value} {es : List Ent} {e : El} (hE : Ents w B v es) (hn : es.length ≤ 1048576) (hF : ∀ x ∈ es, x.el.third ≤ 99) (h0 : 0 ≤ e.third) (h1 : e.third ≤ 99) :
    Calls Tryz.prog 50 #[v, .agg #[.int .i64 e.first, .int .i64 e.second, .int .i64 e.third, .bool e.varies], .int .i64 3] w fun x w' => x = .returned (elV (behind3 es e)) ∧ Below w.heap.size w w' := by
  have HB : Hid (Below _ _ _) := below_new6 w e
  have HX : Hid (Box6 _ _ _) := box6_new w e
  have HE : Hid (Ents _ _ _ _) := hE
  unfold behind3
  obtain ⟨N, HS⟩ : ∃ N, Hid (stepN (fun n => hasQ es (q3 e n)) nx3 1001 (nx3 e.third) = N) := ⟨_, rfl⟩
  rw [HS.out]
  have HS2 : Hid (Left (fun n => hasQ es (q3 e n)) nx3 99 (if e.third + 1 = 8 then 9 else e.third + 1) N) := by
    refine ⟨1001, by split <;> omega, ?_⟩
    rw [← HS.out]
    congr 1
    unfold nx3
    split <;> omega
  clear hE HS
  go_enter Tryz.func50, Tryz.ntmps50
  go_wp2_with fail
  go_loopw [9] (fun i wr => B3i w e es N i wr) (fun i _ => (100 - intOf i).toNat)
  case atStart => exact ⟨e.third + 1, rfl, by omega, by omega, HS2.out, HX.out, HB.out⟩
  case round =>
    clear HS2 HX HB
    obtain ⟨m, rfl, m0, m1, hs, hx, hb⟩ := hrel
    have HS : Hid (Left _ _ _ _ _) := hs
    have H3 := has3_any e.first e.second m (HE.out.below hb) hn
    obtain ⟨e0, e1, e2, e3⟩ := hx.elem
    have HX : Hid (Box6 _ _ _) := hx
    have HB : Hid (Below _ _ _) := hb
    clear hs hx hb HE
    by_cases h8 : m = 8
    · subst h8
      have HS3 : Hid (Left (fun n => hasQ es (q3 e n)) nx3 99 (if (9 : Int) = 8 then 9 else 9) N) := by
        have := HS.out
        rw [if_pos rfl] at this
        rw [if_neg (by omega)]
        exact this
      clear HS hF H3
      go_wp2
      exact ⟨⟨9, by go_num, by omega, by omega, HS3.out, HX.out, HB.out⟩, by simp [intOf]⟩
    · have h8' : (m == 8) = false := by simpa using h8
      have hs4 := HS.out
      rw [if_neg h8] at hs4
      cases hf : hasQ es (q3' e.first e.second m)
      · rw [hf] at H3
        have hN : m = N := hs4.last hf
        subst hN
        clear HS hs4 hF hf h8
        go_wp2_with fail
        refine H3.mono ?_
        rintro e' w3 ⟨rfl, b3⟩
        have hx3 := HX.out.below b3
        have c3 := HB.out.trans (b3.mono HB.out.size)
        clear H3 b3 HX HB e0 e1 e2 e3
        obtain ⟨e0, e1, e2, e3⟩ := hx3.elem
        obtain ⟨q0, q1, q2, q3, f0⟩ := hx3.result
        obtain ⟨n0, n1⟩ := hx3.sizes
        clear hx3
        go_wp2
        refine bodyPost_ret (v := .agg #[.int .i64 e.first, .int .i64 e.second, .int .i64 m, .bool false]) ?_ rfl ⟨rfl, below_res4 c3 _ _ _ _⟩
        rw [results_cell1 rfl]
        go_simp
      · rw [hf] at H3
        have hm2 : m ≤ 99 := by
          obtain ⟨x, hx, hq⟩ := hasQ_le hf
          unfold q3' at hq
          rw [Bool.and_eq_true] at hq
          have := hF x hx
          have := eq_of_beq hq.2
          omega
        have HS3 : Hid (Left (fun n => hasQ es (q3 e n)) nx3 99 (if m + 1 = 8 then 9 else m + 1) N) := by
          have h5 := hs4.next hf hm2 (nx3_lt m)
          have e5 : nx3 m = (if m + 1 = 8 then 9 else m + 1) := by
            unfold nx3
            split <;> omega
          rw [e5] at h5
          exact h5
        clear HS hs4 hF hf h8
        go_wp2_with fail
        refine H3.mono ?_
        rintro e' w3 ⟨rfl, b3⟩
        have HX3 : Hid (Box6 _ _ _) := HX.out.below b3
        have HB3 : Hid (Below _ _ _) := HB.out.trans (b3.mono HB.out.size)
        clear H3 b3 HX HB e0 e1 e2 e3
        go_wp2
        exact ⟨⟨m + 1, by go_num, by omega, by omega, HS3.out, HX3.out, HB3.out⟩, by simp [intOf]; omega⟩

theorem behindI_any {w : World} {B : Nat} {v : Value} {st : RS} {n : Nat} (hE : Ents w B v st.es) (hi : RInv st) (h : n = 1 ∨ n = 2 ∨ n = 3) (hm : Held w 1 marksF) :
    Calls Tryz.prog 50 #[v, .agg #[.int .i64 st.last.first, .int .i64 st.last.second, .int .i64 st.last.third, .bool st.last.varies], .int .i64 (n : Int)] w fun x w' => x = .returned (elV (behindE st.es st.last n)) ∧ Below w.heap.size w w' := by
  obtain ⟨h1, h2, h3⟩ := rulesOk_whole hi.good
  rcases h with rfl | rfl | rfl
  · exact behind1i_any hE (by omega) (fun e he => (h3 e he).2.1.2) hi.f0 hi.f1 hm
  · exact behind2i_any hE (by omega) (fun e he => (h3 e he).2.2.1.2) hi.s0 hi.s1
  · exact behind3i_any hE (by omega) (fun e he => (h3 e he).2.2.2.1.2) hi.t0 hi.t1
end Go.Proofs.YtakfnmhokijcoaaGreatDoor

namespace Go.Proofs.YtakfnmhokijcoaaGreatDoor
open Go.RowKit

theorem putIn_noreset {st : RS} {lev : Nat} {l : List Int} (h : runesOk l = true) (hl : lev ≠ 0) (h2 : st.reset = false) : putIn st lev l = .error 3 := by
  unfold putIn; rw [if_neg (by simp [h]), if_neg hl, if_pos h2]
theorem putI_twice {st : RS} {lev : Nat} {l : List Int} (h : runesOk l = true) (hl : lev ≠ 0) (h2 : st.reset = true) (h3 : 0 ≤ atE st.es l) : putIn st lev l = .error 4 := by
  unfold putIn; rw [if_neg (by simp [h]), if_neg hl, if_neg (by simp [h2]), if_pos h3]
theorem putIn_full {st : RS} {lev : Nat} {l : List Int} (h : runesOk l = true) (hl : lev ≠ 0) (h2 : st.reset = true) (h3 : ¬ 0 ≤ atE st.es l) (h4 : rulesOk (st.es ++ [⟨l, behindE st.es st.last lev⟩]) st.lv = false) : putIn st lev l = .error 5 := by
  unfold putIn; rw [if_neg (by simp [h]), if_neg hl, if_neg (by simp [h2]), if_neg h3, if_neg (by simp [h4])]
theorem putI_put {st : RS} {lev : Nat} {l : List Int} (h : runesOk l = true) (hl : lev ≠ 0) (h2 : st.reset = true) (h3 : ¬ 0 ≤ atE st.es l) (h4 : rulesOk (st.es ++ [⟨l, behindE st.es st.last lev⟩]) st.lv = true) : putIn st lev l = .ok { st with es := st.es ++ [⟨l, behindE st.es st.last lev⟩], last := behindE st.es st.last lev } := by
  unfold putIn; rw [if_neg (by simp [h]), if_neg hl, if_neg (by simp [h2]), if_neg h3, if_pos h4]

theorem own_over {u : World} {B b : Nat} {v : Value} {l : List Int} (h : Ints u B v l) (hb : b + 1 ≤ B) : v.ownBlock = none ∨ v.ownBlock ≠ some b := by
  cases e : v.ownBlock with
  | none => exact .inl rfl
  | some g =>
    refine .inr fun c => ?_
    have := (World.ownsRow.lt h g e).1
    cases c
    omega

/-- elemBehind with the reader's last elem, and what the reader holds behind it. -/
theorem behindK {w u : World} {b T n : Nat} {l : List UInt8} {st : RS} {vE : Value} (h : RdM w u b T l st vE) (hi : RInv st) (hn : n = 1 ∨ n = 2 ∨ n = 3) :
    Calls Tryz.prog 50 #[vE, .agg #[.int .i64 st.last.first, .int .i64 st.last.second, .int .i64 st.last.third, .bool st.last.varies], .int .i64 (n : Int)] u fun x u' => x = .returned (elV (behindE st.es st.last n)) ∧ Below u.heap.size u u' ∧ (u'.cell? ⟨b, 4, none⟩ = some (.int .i64 st.last.first) ∧ u'.cell? ⟨b, 5, none⟩ = some (.int .i64 st.last.second) ∧ u'.cell? ⟨b, 6, none⟩ = some (.int .i64 st.last.third) ∧ u'.cell? ⟨b, 7, none⟩ = some (.bool st.last.varies)) ∧ ∀ j, u'.frozen? ⟨b, j, none⟩ = false :=
  (behindI_any h.en.ents hi hn h.tab.1).mono fun _ _ ⟨h1, h2⟩ => by
    obtain ⟨_, _, _, _, c4, c5, c6, c7, _, fz⟩ := (h.step h2).cells
    exact ⟨h1, h2, ⟨c4, c5, c6, c7⟩, fz⟩

set_option maxRecDepth 100000 in
set_option maxHeartbeats 16000000 in
theorem put_any {w u : World} {b T lev : Nat} {l : List UInt8} {st : RS} {vE : Value} (h : RdM w u b T l st vE) (hl : l.length ≤ 1048576) (hi : RInv st) (hlev : lev = 1 ∨ lev = 2 ∨ lev = 3) :
    Calls Tryz.prog 39 #[.pointer (some ⟨b, 0, none⟩), .int .i64 (lev : Int)] u fun e u' => ∃ c, e = .returned (.int .i64 c) ∧ Out w u' b (wdR l) (putW st lev (wdB l)) c := by
  have NW := nextWd_any h hl
  have hx : (wdB l).size ≤ 1048576 := Nat.le_trans (wd_len l).1 hl
  have HI : Hid (RInv st) := hi
  have hil := hi.len
  have hl0 : lev ≠ 0 := by omega
  have HN : Hid (jOk (wdB l) = false → putW st lev (wdB l) = .error 2) := fun c => putW_no c
  have HY : Hid (jOk (wdB l) = true → putW st lev (wdB l) = putIn st lev (jR (wdB l)) ∧ runesOk (jR (wdB l)) = true) := fun c => by
    have e : jR (wdB l) = nD (Dec.decT (wdB l).size (wdB l)).1 := by unfold jR; rw [if_pos c]
    rw [e]
    refine ⟨putW_yes c, ?_⟩
    unfold jOk at c
    rw [Bool.and_eq_true] at c
    exact c.2
  clear h hi
  generalize putW st lev (wdB l) = R at *
  generalize wdR l = l2 at *
  have JR := fun (u : World) (ht : Tabs3 u) => joinedR_any (wdB l) hx u ht
  generalize jR (wdB l) = r at *
  generalize hj : jOk (wdB l) = jo at *
  generalize wdB l = x at *
  clear hj
  cases jo
  · have HE : Hid (R = .error 2) := HN.out rfl
    clear HN HY
    go_enter Tryz.func39, Tryz.ntmps39
    go_wp2_with fail
    refine NW.mono ?_
    rintro e u1 ⟨rfl, hm⟩
    clear NW
    have J1 := JR _ hm.tab
    have HM : Hid (RdM _ _ _ _ _ _ _) := hm
    clear JR hm
    go_wp2_with fail
    refine J1.mono ?_
    rintro e u2 ⟨v2, rfl, i2, b2⟩
    have HB : Hid (Below _ _ _) := (HM.out.step b2).be
    clear J1 HM
    go_wp2
    go_ret
    exact ⟨2, rfl, .inl ⟨HE.out, by decide, HB.out⟩⟩
  · obtain ⟨hp, hro⟩ := HY.out rfl
    have hrl := runesOk_len hro
    clear HN HY
    cases hre : st.reset
    · have HE : Hid (R = .error 3) := hp.trans (putIn_noreset hro hl0 hre)
      clear hp hro
      go_enter Tryz.func39, Tryz.ntmps39
      go_wp2_with fail
      refine NW.mono ?_
      rintro e u1 ⟨rfl, hm⟩
      clear NW
      have J1 := JR _ hm.tab
      have HM : Hid (RdM _ _ _ _ _ _ _) := hm
      clear JR hm
      go_wp2_with fail
      refine J1.mono ?_
      rintro e u2 ⟨v2, rfl, i2, b2⟩
      have hm2 := HM.out.step b2
      obtain ⟨c0, c1, c2, c3, c4, c5, c6, c7, c8, fz⟩ := hm2.cells
      rw [hre] at c8
      have HB : Hid (Below _ _ _) := hm2.be
      clear J1 HM hm2
      go_wp2
      go_ret
      exact ⟨3, rfl, .inl ⟨HE.out, by decide, HB.out⟩⟩
    · go_enter Tryz.func39, Tryz.ntmps39
      go_wp2_with fail
      refine NW.mono ?_
      rintro e u1 ⟨rfl, hm0⟩
      clear NW
      have hm := hm0.up
      have J1 := JR _ hm.tab
      have HM : Hid (RdM _ _ _ _ _ _ _) := hm
      clear JR hm hm0
      go_wp2_with fail
      refine J1.mono ?_
      rintro e u2 ⟨v2, rfl, i2, b2⟩
      obtain ⟨va, vm, vc, rfl⟩ : ∃ a m c, v2 = .slice a m c := by
        rcases i2.form with ⟨rfl, _⟩ | ⟨_, _, rfl, _, _⟩
        · exact ⟨_, _, _, rfl⟩
        · exact ⟨_, _, _, rfl⟩
      have hm2 := HM.out.step b2
      have E := entry_any hm2.en.ents i2 hil.1 (by omega) hil.2
      obtain ⟨c0, c1, c2, c3, c4, c5, c6, c7, c8, fz⟩ := hm2.cells
      rw [hre] at c8
      have hlt := hm2.lt
      have hb1 := HM.out.lt
      have HM2 : Hid (RdM _ _ _ _ _ _ _) := hm2
      have I2 : Hid (Ints _ _ _ _) := i2
      clear J1 HM hm2 i2 b2
      cases ho : entOf st.es r with
      | some x1 =>
        rw [ho] at E
        have h0 : 0 ≤ atE st.es r := by
          have := entOf_some (es := st.es) (l := r)
          rw [ho] at this
          exact of_decide_eq_true this.symm
        have HE : Hid (R = .error 4) := hp.trans (putI_twice hro hl0 hre h0)
        unfold elRes elOf elV at E
        simp only [Option.getD_some, Option.isSome_some] at E
        clear hp ho hro h0
        go_wp2_with fail
        refine E.mono ?_
        rintro e u3 ⟨rfl, b3⟩
        have HB : Hid (Below _ _ _) := (HM2.out.step b3).be
        have hsz := b3.size
        clear E HM2 c0 c1 c2 c3 c4 c5 c6 c7 c8 fz I2
        go_wp2
        go_ret
        exact ⟨4, rfl, .inl ⟨HE.out, by decide, HB.out.alloc (by omega) _⟩⟩
      | none =>
        rw [ho] at E
        have h0 : ¬ 0 ≤ atE st.es r := by rw [atE_of_none ho]; omega
        unfold elRes elOf elV at E
        simp only [Option.getD_none, Option.isSome_none] at E
        clear ho
        go_wp2_with fail
        refine E.mono ?_
        rintro e u3 ⟨rfl, b3⟩
        have hal := (Below.refl u3.heap.size u3).alloc (Nat.le_refl _) (.cells #[.int .i64 0, .int .i64 0, .int .i64 0, .bool false] 41)
        have HM4 : Hid (RdM _ _ _ _ _ _ _) := (HM2.out.step b3).step hal
        have I4 : Hid (Ints _ _ _ _) := (I2.out.below b3).below hal
        clear E HM2 c0 c1 c2 c3 c4 c5 c6 c7 c8 fz I2 b3 hal
        have BH := fun (u : World) (hb : Below (u3.alloc (.cells #[.int .i64 0, .int .i64 0, .int .i64 0, .bool false] 41)).heap.size (u3.alloc (.cells #[.int .i64 0, .int .i64 0, .int .i64 0, .bool false] 41)) u) => behindK (HM4.out.step hb) HI.out hlev
        obtain ⟨nb, HNB⟩ : ∃ nb, Hid (behindE st.es st.last lev = nb) := ⟨_, rfl⟩
        rw [HNB.out] at BH
        unfold elV at BH
        obtain ⟨c0, c1, c2, c3, c4, c5, c6, c7, c8, fz⟩ := HM4.out.cells
        rw [hre] at c8
        have hlt4 := HM4.out.lt
        have KP : Hid (∀ u5 u6, Below (u3.alloc (.cells #[.int .i64 0, .int .i64 0, .int .i64 0, .bool false] 41)).heap.size (u3.alloc (.cells #[.int .i64 0, .int .i64 0, .int .i64 0, .bool false] 41)) u5 → Below u5.heap.size u5 u6 → RdM w (setLs u6 b nb) b u1.heap.size l2 { st with last := nb } vE ∧ Ints (setLs u6 b nb) u1.heap.size (.slice va vm vc) r) := fun u5 u6 h5 h6 =>
          ⟨((HM4.out.step h5).step h6).setLast nb, World.ownsRow.kept ((I4.out.below h5).below h6) (setLs_grown u6 b nb) (own_over ((I4.out.below h5).below h6) hb1)⟩
        go_upto_region 9 with fail
        go_cut [5] from 33 to 46 (fun s5 wx => s5 = .slice va vm vc ∧ RdM w wx b u1.heap.size l2 { st with last := nb } vE ∧ Ints wx u1.heap.size (.slice va vm vc) r)
        case first =>
          go_region_with (go_at_call 50; refine (BH _ (by repeat (first | exact Below.refl _ _ | refine Below.drew ?_))).mono ?_; rintro e u6 ⟨rfl, b6, ⟨k4, k5, k6, k7⟩, kf⟩)
          all_goals
            have hK := KP.out _ _ (by repeat (first | exact Below.refl _ _ | refine Below.drew ?_)) b6
            go_wp2_with fail
            go_meet
            case rel => exact ⟨rfl, hK⟩
        case rest =>
          obtain ⟨rfl, hmc, hIc⟩ := hcut
          clear BH KP c0 c1 c2 c3 c4 c5 c6 c7 c8 fz HM4 I4 hlt4
          obtain ⟨xs, hxl, h1, h2, h3, h4, h5⟩ := hmc.en
          obtain ⟨c0, c1, c2, c3, c4, c5, c6, c7, c8, fz⟩ := hmc.cells
          simp only at c2 c3 c4 c5 c6 c7 c8
          rw [hre] at c8
          have hltc := hmc.lt
          have hlen := (rulesOk_whole HI.out.good).1
          have HMc : Hid (RdM _ _ _ _ _ _ _) := hmc
          have HIc : Hid (Ints _ _ _ _) := hIc
          have H2 : Hid _ := h2
          have H3 : Hid _ := h3
          have H5 : Hid _ := h5
          have KG : Hid (∀ u9 : World, (wc.alloc (.cells #[.slice va vm vc, .int .i64 nb.first, .int .i64 nb.second, .int .i64 nb.third, .bool nb.varies] 52)).grownBy u9 vE.ownBlock → u9.cell? ⟨b, 1, none⟩ = some vE ∧ ∀ j, u9.frozen? ⟨b, j, none⟩ = false) := fun u9 hg => by
            have hb9 : u9.heap[b]? = some (.cells (rdC l2 vE { st with last := nb }) 55) := by
              rw [hg.block b (by simp; omega) (fun c => by have := (World.ownsRow.lt h1 b c.symm).1; omega), Below.heap_alloc _ _ _ hltc]; exact HMc.out.blk
            exact ⟨cell_of_row _ _ 1 _ _ _ hb9, fun j => by simp [World.frozen?, hb9]⟩
          obtain ⟨it, hit, hzz, hz1, hz2⟩ := info_parts info_ent
          clear hmc hIc h2 h3 h4 h5 HI
          have h1a : ∀ u : World, u.heap = (wc.alloc (.cells #[.slice va vm vc, .int .i64 nb.first, .int .i64 nb.second, .int .i64 nb.third, .bool nb.varies] 52)).heap → u.ownsRow (b + 1) 52 5 vE st.es.length (entAll xs st.es) := fun u hu => by
            have := h1.alloc (o := (.cells #[.slice va vm vc, .int .i64 nb.first, .int .i64 nb.second, .int .i64 nb.third, .bool nb.varies] 52))
            unfold World.ownsRow at this ⊢
            rw [hu]; exact this
          have PUT : Hid (∀ (uA u9 : World) (g9 cap9 : Nat), uA = wc.alloc (.cells #[.slice va vm vc, .int .i64 nb.first, .int .i64 nb.second, .int .i64 nb.third, .bool nb.varies] 52) → uA.grownBy u9 vE.ownBlock → u9.ownsRow (b + 1) 52 5 (.slice (some ⟨g9, 0, none⟩) (st.es.length + 1) cap9) (st.es.length + 1) (entAll xs st.es ++ entC (.slice va vm vc) nb) → RdM w (u9.setCell ⟨b, 1, none⟩ (.slice (some ⟨g9, 0, none⟩) (st.es.length + 1) cap9)) b u9.heap.size l2 { st with es := st.es ++ [⟨r, nb⟩], last := nb } (.slice (some ⟨g9, 0, none⟩) (st.es.length + 1) cap9)) := fun uA u9 g9 cap9 hA hg ho => by
            subst hA
            have hal := (Below.refl wc.heap.size wc).alloc (Nat.le_refl _) (.cells #[.slice va vm vc, .int .i64 nb.first, .int .i64 nb.second, .int .i64 nb.third, .bool nb.varies] 52)
            exact RdM.put (st := { st with last := nb }) (HMc.out.step hal) hxl (h1a _ rfl) (fun k e he => by obtain ⟨z, hz, hzi⟩ := H2.out k e he; exact ⟨z, hz, hzi.below hal⟩) H3.out H5.out (HIc.out.below hal) (Nat.le_refl _) hb1 hg ho
          go_upto_region 10 with fail
          go_cut [5] from 47 to 63 (fun _ wx => ∃ g9 cap9 T9, RdM w wx b T9 l2 { st with es := st.es ++ [⟨r, nb⟩], last := nb } (.slice (some ⟨g9, 0, none⟩) (st.es.length + 1) cap9))
          case first =>
            go_region_law (refine step_append_lies _ rfl (.tmp 52) (.tmp 59) 30 rfl (b + 1) 52 it _ 5 56 Tryz.underlying30 hit hzz hz1 hz2 rfl (by decide) _ _ _ (by simp [Act.eval]) (h1a _ rfl) ⟨wc.heap.size, 0, none⟩ 1 1 (entC (.slice va vm vc) nb) (by simp [Act.eval]) rfl (cells5_new _ _ _ _) (fun z hz => by simp [entC] at hz; rcases hz with rfl | rfl | rfl | rfl | rfl <;> rfl) (by omega) (by unfold maxLen; omega) (by omega) (by simp; omega) (wc.heap.size + 1) (by simp) ?_; intro g9 cap9 w9 ho9 hg9 hgg9 hlt9; have k1 := (KG.out w9 (grown_drew hg9)).1; have kf := (KG.out w9 (grown_drew hg9)).2)
            all_goals
              have hK := PUT.out _ _ g9 cap9 rfl (grown_drew hg9) ho9
              go_wp2_with fail
              go_meet
              case rel => exact ⟨g9, cap9, _, hK⟩
          case rest =>
            obtain ⟨g9, cap9, T9, hm9⟩ := hcut
            have hr9 : ∀ e ∈ st.es ++ [⟨r, nb⟩], e.runes.length ≤ 1048576 := fun e he => by
              rcases List.mem_append.1 he with h | h
              · exact hil.2 e h
              · simp at h; subst h; exact Nat.le_trans hrl (by omega)
            have GR := implGood3_any (sh := st.sh) (lv := st.lv) hm9.en.ents hr9 hm9.tab
            clear PUT KG HMc HIc H2 H3 H5 h1 h1a hr9 c0 c1 c2 c3 c4 c5 c6 c7 c8 fz hltc hxl
            obtain ⟨c0, c1, c2, c3, c4, c5, c6, c7, c8, fz⟩ := hm9.cells
            simp only at c1 c2 c3
            have HM9 : Hid (RdM _ _ _ _ _ _ _) := hm9
            have hlt9 := hm9.lt
            clear hm9
            cases hg : rulesOk (st.es ++ [⟨r, nb⟩]) st.lv
            · have HE : Hid (R = .error 5) := hp.trans (putIn_full hro hl0 hre (by omega) (by rw [HNB.out]; exact hg))
              rw [hg] at GR
              go_wp2_with fail
              refine GR.mono ?_
              rintro e u10 ⟨rfl, b10⟩
              have HB : Hid (Below _ _ _) := (HM9.out.step b10).be
              clear GR HM9 c0 c1 c2 c3 c4 c5 c6 c7 c8 fz
              go_wp2
              go_ret
              exact ⟨5, rfl, .inl ⟨HE.out, by decide, HB.out⟩⟩
            · have HE : Hid (R = .ok { st with es := st.es ++ [⟨r, nb⟩], last := nb }) := by
                show _ = _
                rw [← HNB.out]
                exact hp.trans (putI_put hro hl0 hre (by omega) (by rw [HNB.out]; exact hg))
              rw [hg] at GR
              go_wp2_with fail
              refine GR.mono ?_
              rintro e u10 ⟨rfl, b10⟩
              have HS : Hid (RdM _ _ _ _ _ _ _) := HM9.out.step b10
              clear GR HM9 c0 c1 c2 c3 c4 c5 c6 c7 c8 fz
              go_wp2
              go_ret
              exact ⟨0, rfl, .inr ⟨_, _, _, HE.out, rfl, HS.out⟩⟩
end Go.Proofs.YtakfnmhokijcoaaGreatDoor

namespace Go.Proofs.YtakfnmhokijcoaaGreatDoor
open Go.RowKit

/-- The length of what the reader has left. -/
def leftOf (b : Nat) (u : World) : Nat := match u.cell? ⟨b, 0, none⟩ with
  | some (.string s) => s.size
  | _ => 0

theorem leftOf_rd {w u : World} {b T : Nat} {l : List UInt8} {st : RS} {vE : Value} (h : RdM w u b T l st vE) : leftOf b u = l.length := by
  unfold leftOf
  rw [h.cells.1]
  simp [ByteArray.size]

theorem wdR_lt {l : List UInt8} (h : (nextL l).1 ≠ []) : (wdR l).length < l.length := by
  unfold wdR
  induction l with
  | nil => exact absurd rfl h
  | cons x l ih =>
    by_cases hx : x = 32
    · have e : nextL (x :: l) = nextL l := by simp [nextL, hx]
      rw [e] at h ⊢
      have := ih h
      simp only [List.length_cons]
      omega
    · have e : (nextL (x :: l)).2 = (l.dropWhile (· != 32)).drop 1 := by simp [nextL, hx]
      rw [e]
      have := (List.dropWhile_sublist (l := l) (fun y => y != 32)).length_le
      simp only [List.length_drop, List.length_cons]
      omega

/-- What holds at each word. -/
def RdJ (w : World) (b : Nat) (R : Except Int RS) (u : World) : Prop := ∃ l T st vE, RdM w u b T l st vE ∧ RInv st ∧ l.length ≤ 1048576 ∧ readW (wf l []) st = R

/-- What read leaves. -/
def RdEnd (w : World) (b : Nat) (R : Except Int RS) (c : Int) (u : World) : Prop := ∃ l, Out w u b l R c

theorem wp_scope_back {P : Program} {a : Act} {w : World} {Q : Exit → Act → World → Prop} {r1 rest : Code} (l : Nat) (J : Act → World → Prop) (μ : Act → World → Nat) (hf : findLabel (r1.seq ((Code.label l).seq rest)) l = some (Code.skip.seq rest))
    (first : r1.wp P (fun e a w => e = .normal ∧ J a w) a w)
    (pass : ∀ a w, J a w → rest.wp P (Exit.jump l (fun a' w' => J a' w' ∧ μ a' w' < μ a w) Q) a w) : (Code.scope (r1.seq ((Code.label l).seq rest))).wp P Q a w := by
  refine wp_scope_jumps l J μ hf ?_ (fun a w hJ => wp_seq (wp_skip (show Code.wp P rest _ a w from pass a w hJ)))
  refine wp_seq (wp_mono first ?_)
  rintro e a w ⟨rfl, hJ⟩
  show ((Code.label l).seq rest).wp P (Exit.jump l J Q) a w
  refine wp_seq (wp_label ?_)
  show rest.wp P (Exit.jump l J Q) a w
  refine wp_mono (pass a w hJ) ?_
  intro e a' w' hq
  cases e with
  | goto l' => exact ⟨hq.1, hq.2.1⟩
  | normal => exact hq
  | exit _ => exact hq
  | ret => exact hq
  | panic _ => exact hq
  | outgrown => exact hq

theorem rd_next {w u u' : World} {b T T' : Nat} {l l' : List UInt8} {st st' : RS} {vE vE' : Value} {R : Except Int RS} (hm : RdM w u b T l st vE) (hm' : RdM w u' b T' l' st' vE') (hi : RInv st') (hlt : l'.length < l.length) (hl : l.length ≤ 1048576) (hR : readW (wf l' []) st' = R) : RdJ w b R u' ∧ leftOf b u' < leftOf b u :=
  ⟨⟨l', T', st', vE', hm', hi, by omega, hR⟩, by rw [leftOf_rd hm, leftOf_rd hm']; exact hlt⟩

theorem levOf_lit (x : ByteArray) : levOf x = if (x.toList == [38]) = true then some 0 else if (x.toList == [60]) = true then some 1 else if (x.toList == [60, 60]) = true then some 2 else if (x.toList == [60, 60, 60]) = true then some 3 else none := rfl

theorem size_of_list {x : ByteArray} {l : List UInt8} (h : (x.toList == l) = true) : x.size = l.length := by
  have e := beq_iff_eq.1 h
  rw [ByteArray.toList_eq] at e
  rw [← e, Array.length_toList]
  rfl

/-- Where the words go on behind one. -/
def goOn (r : Except Int RS) (l : List UInt8) : Except Int RS := match r with
  | .error c => .error c
  | .ok st' => readW (wf l []) st'

/-- What one word leads to: an end, or the next word. -/
theorem step_end {w u u' : World} {b T : Nat} {l l' : List UInt8} {st : RS} {vE : Value} {R r : Except Int RS} {c : Int} (hm : RdM w u b T l st vE) (hlt : l'.length < l.length) (hl : l.length ≤ 1048576) (hinv : ∀ st', r = .ok st' → RInv st')
    (hR : R = goOn r l') (h : Out w u' b l' r c) : (c ≠ 0 ∧ RdEnd w b R c u') ∨ (c = 0 ∧ RdJ w b R u' ∧ leftOf b u' < leftOf b u) := by
  rcases h with ⟨h1, h2, h3⟩ | ⟨st', T', vE', h1, h2, h3⟩
  · rw [h1] at hR
    exact .inl ⟨h2, l', .inl ⟨hR, h2, h3⟩⟩
  · rw [h1] at hR
    exact .inr ⟨h2, rd_next hm h3 (hinv st' h1) hlt hl hR.symm⟩

set_option maxRecDepth 100000 in
set_option maxHeartbeats 16000000 in
theorem readI_any {w u : World} {b T : Nat} {l : List UInt8} {st : RS} {vE : Value} (h : RdM w u b T l st vE) (hl : l.length ≤ 1048576) (hi : RInv st) :
    Calls Tryz.prog 25 #[.pointer (some ⟨b, 0, none⟩)] u fun e u' => ∃ c, e = .returned (.int .i64 c) ∧ RdEnd w b (readW (wf l []) st) c u' := by
  obtain ⟨R, HR⟩ : ∃ R, Hid (readW (wf l []) st = R) := ⟨_, rfl⟩
  rw [HR.out]
  have HJ : Hid (RdJ w b R u) := ⟨l, T, st, vE, h, hi, hl, HR.out⟩
  clear h hl hi HR
  go_enter Tryz.func25, Tryz.ntmps25
  go_wp2
  refine wp_scope_back 0 (fun a' u' => RdJ w b R u' ∧ ∃ (u4 u5 u6 u7 u8 u9 u10 u11 u12 u13 u14 u15 u16 u17 u18 u19 u20 u21 u22 u23 u24 u25 u26 u27 u28 u29 u30 u31 u32 u33 u34 u35 : Value), a' = { tmps := #[.pointer (some ⟨b, 0, none⟩), undef, .int .i64 0, .int .i64 0, u4, u5, u6, u7, u8, u9, u10, u11, u12, u13, u14, u15, u16, u17, u18, u19, u20, u21, u22, u23, u24, u25, u26, u27, u28, u29, u30, u31, u32, u33, u34, u35], defers := [] }) (fun _ u' => leftOf b u') rfl ?_ ?_
  · go_wp2
    exact HJ.out
  · clear HJ
    rintro a u0 ⟨⟨l, T, st, vE, hm, hi, hl, hR⟩, u4, u5, u6, u7, u8, u9, u10, u11, u12, u13, u14, u15, u16, u17, u18, u19, u20, u21, u22, u23, u24, u25, u26, u27, u28, u29, u30, u31, u32, u33, u34, u35, rfl⟩
    have NW := nextWd_any hm hl
    have HM0 : Hid (RdM _ _ _ _ _ _ _) := hm
    have HI : Hid (RInv st) := hi
    have HR : Hid (readW (wf l []) st = R) := hR
    clear hm hi hR
    by_cases he : (nextL l).1 = []
    · have e0 : ((wdB l).toList == []) = true := by unfold wdB; rw [he, ByteArray.toList_eq]; rfl
      have e1 : (wdB l).toList.isEmpty = true := by unfold wdB; rw [he, ByteArray.toList_eq]; rfl
      have HE : Hid (∀ u1, RdM w u1 b T (wdR l) st vE → RdEnd w b R 0 u1) := fun u1 h1 => ⟨_, .inr ⟨st, T, vE, by rw [← HR.out, readI_nil he], rfl, h1⟩⟩
      generalize wdB l = x at *
      clear he HR HI HM0
      go_wp2_with fail
      refine NW.mono ?_
      rintro e u1 ⟨rfl, hm1⟩
      have hE := HE.out _ hm1
      clear NW HE hm1
      go_wp2
      simp only [Exit.jump]
      go_ret
      exact ⟨0, rfl, hE⟩
    · have hne : ∃ y ys, (nextL l).1 = y :: ys := by
        cases c : (nextL l).1 with
        | nil => exact absurd c he
        | cons y ys => exact ⟨y, ys, rfl⟩
      have z0 : ((wdB l).toList == []) = false := by
        obtain ⟨y, ys, h⟩ := hne
        unfold wdB; rw [h, ByteArray.toList_eq]; simp
      have z1 : (wdB l).toList.isEmpty = false := by
        obtain ⟨y, ys, h⟩ := hne
        unfold wdB; rw [h, ByteArray.toList_eq]; simp
      clear hne
      have hlt := wdR_lt he
      have hl1 : (wdR l).length ≤ 1048576 := by omega
      have hlt2 : (wdR (wdR l)).length < l.length := Nat.lt_of_le_of_lt (wd_len (wdR l)).2 hlt
      by_cases n_shift : ((wdB l).toList == [91, 115, 104, 105, 102, 116, 101, 100, 93]) = true
      · have ST : Hid (∀ u1, RdM w u1 b T (wdR l) { st with sh := true } vE → RdJ w b R u1 ∧ leftOf b u1 < leftOf b u0) := fun u1 h1 => rd_next HM0.out h1 (shift_inv HI.out) hlt hl (by rw [← HR.out, readI_shift he n_shift])
        generalize wdB l = x at *
        clear he HR HI HM0
        go_wp2_with fail
        refine NW.mono ?_
        rintro e u1 ⟨rfl, hm1⟩
        have hJ2 := ST.out _ (hm1.set (i := 2) (x := .bool true) (l' := wdR l) (st' := { st with sh := true }) (vE' := vE) rfl rfl rfl)
        obtain ⟨_, _, c2, _, _, _, _, _, _, fz⟩ := hm1.cells
        have hb1 := hm1.lt
        clear NW ST hm1
        go_wp2
        go_step3
        exact ⟨rfl, ⟨hJ2.1, _, _, _, _, _, _, _, _, _, _, _, _, _, _, _, _, _, _, _, _, _, _, _, _, _, _, _, _, _, _, _, _, rfl⟩, hJ2.2⟩
      · have f_shift : ((wdB l).toList == [91, 115, 104, 105, 102, 116, 101, 100, 93]) = false := by simpa using n_shift
        by_cases n_lev : ((wdB l).toList == [91, 108, 101, 118, 101, 108, 115]) = true
        · have ST : Hid (∀ u2 c, Out w u2 b (wdR (wdR l)) (levR st (wdB (wdR l))) c → (c ≠ 0 ∧ RdEnd w b R c u2) ∨ (c = 0 ∧ RdJ w b R u2 ∧ leftOf b u2 < leftOf b u0)) := fun u2 c h2 => step_end HM0.out hlt2 hl (fun st' h => levR_inv HI.out h) (by rw [← HR.out, readW_levels he f_shift n_lev]; unfold goOn; cases levR st (wdB (wdR l)) <;> rfl) h2
          generalize wdB l = x at *
          clear he HR HI HM0
          go_wp2_with fail
          refine NW.mono ?_
          rintro e u1 ⟨rfl, hm1⟩
          have C1 := levels_any hm1 hl1
          clear NW hm1
          go_wp2_with fail
          refine C1.mono ?_
          rintro e u2 ⟨c, rfl, ho⟩
          clear C1
          rcases ST.out _ _ ho with ⟨hc, hE⟩ | ⟨rfl, hJ2⟩
          · have hc2 : (c == 0) = false := by simpa using hc
            clear ST ho hc
            go_wp2
            simp only [Exit.jump]
            go_ret
            exact ⟨c, rfl, hE⟩
          · clear ST ho
            go_wp2
            go_step3
            exact ⟨rfl, ⟨hJ2.1, _, _, _, _, _, _, _, _, _, _, _, _, _, _, _, _, _, _, _, _, _, _, _, _, _, _, _, _, _, _, _, _, rfl⟩, hJ2.2⟩
        · have f_lev : ((wdB l).toList == [91, 108, 101, 118, 101, 108, 115]) = false := by simpa using n_lev
          have OP : Hid (∀ lev, levOf (wdB l) = some lev → ∀ u2 c, Out w u2 b (wdR (wdR l)) (putW st lev (wdB (wdR l))) c → (c ≠ 0 ∧ RdEnd w b R c u2) ∨ (c = 0 ∧ RdJ w b R u2 ∧ leftOf b u2 < leftOf b u0)) := fun lev hx u2 c h2 => step_end HM0.out hlt2 hl (fun st' h => putW_inv HI.out h) (by rw [← HR.out, readW_op he f_shift f_lev hx]; unfold goOn; cases putW st lev (wdB (wdR l)) <;> rfl) h2
          have BAD : Hid (levOf (wdB l) = none → R = .error 2) := fun hx => by rw [← HR.out, readW_bad he f_shift f_lev hx]
          have LO : Hid (levOf (wdB l) = if ((wdB l).toList == [38]) = true then some 0 else if ((wdB l).toList == [60]) = true then some 1 else if ((wdB l).toList == [60, 60]) = true then some 2 else if ((wdB l).toList == [60, 60, 60]) = true then some 3 else none) := levOf_lit (wdB l)
          generalize wdB l = x at *
          clear he HR HM0 n_shift n_lev
          by_cases n_amp : (x.toList == [38]) = true
          · have ST : Hid _ := OP.out 0 (LO.out.trans (by rw [if_pos n_amp]))
            clear OP BAD LO
            go_wp2_with fail
            refine NW.mono ?_
            rintro e u1 ⟨rfl, hm1⟩
            have C1 := reset_any hm1 hl1 HI.out
            clear NW hm1
            go_wp2_with fail
            refine C1.mono ?_
            rintro e u2 ⟨c, rfl, ho⟩
            clear C1
            rcases ST.out _ _ ho with ⟨hc, hE⟩ | ⟨rfl, hJ2⟩
            · have hc2 : (c == 0) = false := by simpa using hc
              clear ST ho hc
              go_wp2
              simp only [Exit.jump]
              go_ret
              exact ⟨c, rfl, hE⟩
            · clear ST ho
              go_wp2
              go_step3
              exact ⟨rfl, ⟨hJ2.1, _, _, _, _, _, _, _, _, _, _, _, _, _, _, _, _, _, _, _, _, _, _, _, _, _, _, _, _, _, _, _, _, rfl⟩, hJ2.2⟩
          · have f_amp : (x.toList == [38]) = false := by simpa using n_amp
            by_cases n_l1 : (x.toList == [60]) = true
            · have hsz : x.size = 1 := size_of_list n_l1
              have ST : Hid _ := OP.out x.size (by rw [hsz]; exact LO.out.trans (by rw [if_neg n_amp, if_pos n_l1]))
              have hlv : x.size = 1 ∨ x.size = 2 ∨ x.size = 3 := by omega
              clear OP BAD LO hsz n_amp
              go_wp2_with fail
              refine NW.mono ?_
              rintro e u1 ⟨rfl, hm1⟩
              have C1 := put_any hm1 hl1 HI.out hlv
              clear NW hm1
              go_wp2_with fail
              refine C1.mono ?_
              rintro e u2 ⟨c, rfl, ho⟩
              clear C1
              rcases ST.out _ _ ho with ⟨hc, hE⟩ | ⟨rfl, hJ2⟩
              · have hc2 : (c == 0) = false := by simpa using hc
                clear ST ho hc
                go_wp2
                simp only [Exit.jump]
                go_ret
                exact ⟨c, rfl, hE⟩
              · clear ST ho
                go_wp2
                go_step3
                exact ⟨rfl, ⟨hJ2.1, _, _, _, _, _, _, _, _, _, _, _, _, _, _, _, _, _, _, _, _, _, _, _, _, _, _, _, _, _, _, _, _, rfl⟩, hJ2.2⟩
            · have f_l1 : (x.toList == [60]) = false := by simpa using n_l1
              by_cases n_l2 : (x.toList == [60, 60]) = true
              · have hsz : x.size = 2 := size_of_list n_l2
                have ST : Hid _ := OP.out x.size (by rw [hsz]; exact LO.out.trans (by rw [if_neg n_amp, if_neg n_l1, if_pos n_l2]))
                have hlv : x.size = 1 ∨ x.size = 2 ∨ x.size = 3 := by omega
                clear OP BAD LO hsz n_amp n_l1
                go_wp2_with fail
                refine NW.mono ?_
                rintro e u1 ⟨rfl, hm1⟩
                have C1 := put_any hm1 hl1 HI.out hlv
                clear NW hm1
                go_wp2_with fail
                refine C1.mono ?_
                rintro e u2 ⟨c, rfl, ho⟩
                clear C1
                rcases ST.out _ _ ho with ⟨hc, hE⟩ | ⟨rfl, hJ2⟩
                · have hc2 : (c == 0) = false := by simpa using hc
                  clear ST ho hc
                  go_wp2
                  simp only [Exit.jump]
                  go_ret
                  exact ⟨c, rfl, hE⟩
                · clear ST ho
                  go_wp2
                  go_step3
                  exact ⟨rfl, ⟨hJ2.1, _, _, _, _, _, _, _, _, _, _, _, _, _, _, _, _, _, _, _, _, _, _, _, _, _, _, _, _, _, _, _, _, rfl⟩, hJ2.2⟩
              · have f_l2 : (x.toList == [60, 60]) = false := by simpa using n_l2
                by_cases n_l3 : (x.toList == [60, 60, 60]) = true
                · have hsz : x.size = 3 := size_of_list n_l3
                  have ST : Hid _ := OP.out x.size (by rw [hsz]; exact LO.out.trans (by rw [if_neg n_amp, if_neg n_l1, if_neg n_l2, if_pos n_l3]))
                  have hlv : x.size = 1 ∨ x.size = 2 ∨ x.size = 3 := by omega
                  clear OP BAD LO hsz n_amp n_l1 n_l2
                  go_wp2_with fail
                  refine NW.mono ?_
                  rintro e u1 ⟨rfl, hm1⟩
                  have C1 := put_any hm1 hl1 HI.out hlv
                  clear NW hm1
                  go_wp2_with fail
                  refine C1.mono ?_
                  rintro e u2 ⟨c, rfl, ho⟩
                  clear C1
                  rcases ST.out _ _ ho with ⟨hc, hE⟩ | ⟨rfl, hJ2⟩
                  · have hc2 : (c == 0) = false := by simpa using hc
                    clear ST ho hc
                    go_wp2
                    simp only [Exit.jump]
                    go_ret
                    exact ⟨c, rfl, hE⟩
                  · clear ST ho
                    go_wp2
                    go_step3
                    exact ⟨rfl, ⟨hJ2.1, _, _, _, _, _, _, _, _, _, _, _, _, _, _, _, _, _, _, _, _, _, _, _, _, _, _, _, _, _, _, _, _, rfl⟩, hJ2.2⟩
                · have f_l3 : (x.toList == [60, 60, 60]) = false := by simpa using n_l3
                  have HB : Hid (R = .error 2) := BAD.out (LO.out.trans (by rw [if_neg n_amp, if_neg n_l1, if_neg n_l2, if_neg n_l3]))
                  clear OP BAD LO n_amp n_l1 n_l2 n_l3 HI
                  go_wp2_with fail
                  refine NW.mono ?_
                  rintro e u1 ⟨rfl, hm1⟩
                  have hE : RdEnd w b R 2 u1 := ⟨[], .inl ⟨HB.out, by decide, hm1.be⟩⟩
                  clear NW hm1
                  go_wp2
                  simp only [Exit.jump]
                  go_ret
                  exact ⟨2, rfl, hE⟩
end Go.Proofs.YtakfnmhokijcoaaGreatDoor
