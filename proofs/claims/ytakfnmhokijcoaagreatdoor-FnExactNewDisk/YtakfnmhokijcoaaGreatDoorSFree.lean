/- Contract of the specification's l3Free. -/
import Derived.Test.YtakfnmhokijcoaaGreatDoorSRule3
namespace Go.Proofs.YtakfnmhokijcoaaGreatDoor
open Go.RowKit

/-- Whether a first weight is a rune's. -/
def takenB (n : Int) : Bool := decide ((2000 ≤ n ∧ n ≤ 2900 ∧ n % 100 = 0) ∨ (4000 ≤ n ∧ n ≤ 9000 ∧ n % 200 = 0) ∨ (1 ≤ n ∧ n ≤ 9))

/-- Whether no elem has a first weight. -/
def freeE (es : List Ent) (n : Int) : Bool := !takenB n && es.all fun e => e.el.first != n

def NotF (es : List Ent) (n : Int) (k : Nat) : Prop := ∀ j e, j < k → es[j]? = some e → e.el.first ≠ n

theorem NotF.succ {es : List Ent} {n : Int} {e : Ent} {k : Nat} (h : NotF es n k) (hx : es[k]? = some e) (hn : e.el.first ≠ n) : NotF es n (k + 1) := by
  intro j y hj hy
  by_cases c : j = k
  · subst c; rw [hx] at hy; cases hy; exact hn
  · exact h j y (by omega) hy

theorem freeE_hit {es : List Ent} {n : Int} {e : Ent} (he : e ∈ es) (h : e.el.first = n) : freeE es n = false := by
  unfold freeE
  rw [Bool.and_eq_false_iff]
  refine .inr ?_
  rw [List.all_eq_false]
  exact ⟨e, he, by simp [h]⟩

theorem freeE_all {es : List Ent} {n : Int} {k : Nat} (ht : takenB n = false) (h : NotF es n k) (hk : es.length ≤ k) : freeE es n = true := by
  unfold freeE
  rw [ht, Bool.not_false, Bool.true_and, List.all_eq_true]
  intro x hx
  obtain ⟨j, hj⟩ := List.mem_iff_getElem?.1 hx
  have h1 := (List.getElem?_eq_some_iff.1 hj).1
  simpa using h j x (by omega) hj

def FrRel (w : World) (es : List Ent) (n : Int) (i : Value) (wr : World) : Prop := ∃ k : Nat, k ≤ es.length ∧ i = .int .i64 k ∧ NotF es n k ∧ Below w.heap.size w wr

set_option maxRecDepth 100000 in
set_option maxHeartbeats 4000000 in
theorem free_row_a (w : World) (B g cap : Nat) (es : List Ent) (sh : Bool) (lv n : Int) (hE : Ents w B (.slice (some ⟨g, 0, none⟩) es.length cap) es) (hT : takenB n = false) (hn : es.length ≤ 1048576) (hb0 : 0 ≤ n) (hb1 : n ≤ 1000000) (h0 : n < 2000) (h1 : ¬ (1 ≤ n ∧ n ≤ 9)) :
    Calls Tryz.prog 35 #[.agg #[.slice (some ⟨g, 0, none⟩) es.length cap, .bool sh, .int .i64 lv], .int .i64 n] w fun e w' => e = .returned (.bool (freeE es n)) ∧ Below w.heap.size w w' := by
  have HT : Hid (takenB n = false) := hT
  clear hT
  have h2 : n < 4000 := by omega
  have N := fun w => l1In_no n 1 9 h1 w
  clear h1
  go_enter Tryz.func35, Tryz.ntmps35
  go_wp2_with fail
  refine (N _).mono ?_
  rintro e' w1 ⟨rfl, rfl⟩
  clear N
  go_wp2_with fail
  go_loopw [38] (fun i wr => FrRel w es n i wr) (fun i _ => es.length - (intOf i).toNat)
  case atStart => exact ⟨0, Nat.zero_le _, rfl, fun j e hj => by omega, (Below.refl _ _).alloc (Nat.le_refl _) _⟩
  case round =>
    obtain ⟨k, hk, rfl, HN0, hb⟩ := hrel
    have HN : Hid (NotF es n k) := HN0
    clear HN0
    by_cases hlt : k < es.length
    · obtain ⟨e, he⟩ : ∃ e, es[k]? = some e := ⟨_, List.getElem?_eq_getElem hlt⟩
      obtain ⟨x, hI, a0, a1, a2, a3, a4⟩ := (hE.below hb).cells k e he
      obtain ⟨xa, xn, xc, rfl⟩ : ∃ xa xn xc, x = .slice xa xn xc := by
        rcases hI.form with ⟨rfl, _⟩ | ⟨_, _, rfl, _, _⟩
        · exact ⟨_, _, _, rfl⟩
        · exact ⟨_, _, _, rfl⟩
      have hk8 : (k : Int) < (es.length : Int) := by omega
      have HE : Hid _ := he
      clear he hE hI
      by_cases c : e.el.first = n
      · have HA : Hid (freeE es n = false) := freeE_hit (List.mem_of_getElem? HE.out) c
        have c' : (e.el.first == n) = true := by simpa using c
        clear HN HE c
        go_wp2
        go_ret
        rw [HA.out]
        exact ⟨rfl, hb.alloc hb.size _⟩
      · have HN2 : Hid (NotF es n (k + 1)) := HN.out.succ HE.out c
        have c' : (e.el.first == n) = false := by simpa using c
        clear HN HE c
        go_wp2
        exact ⟨⟨k + 1, by omega, by go_num, HN2.out, hb.alloc hb.size _⟩, by simp [intOf]; omega⟩
    · have HA : Hid (freeE es n = true) := freeE_all HT.out HN.out (by omega)
      clear HN hE HT
      go_wp2
      go_ret
      rw [HA.out]
      exact ⟨rfl, hb⟩

set_option maxRecDepth 100000 in
set_option maxHeartbeats 4000000 in
theorem free_nil_a (w : World)  (sh : Bool) (lv n : Int) (hb0 : 0 ≤ n) (hb1 : n ≤ 1000000) (h0 : n < 2000) (h1 : ¬ (1 ≤ n ∧ n ≤ 9)) :
    Calls Tryz.prog 35 #[.agg #[.slice none 0 0, .bool sh, .int .i64 lv], .int .i64 n] w fun e w' => e = .returned (.bool true) ∧ Below w.heap.size w w' := by
  have h2 : n < 4000 := by omega
  have N := fun w => l1In_no n 1 9 h1 w
  clear h1
  go_enter Tryz.func35, Tryz.ntmps35
  go_wp2_with fail
  refine (N _).mono ?_
  rintro e' w1 ⟨rfl, rfl⟩
  clear N
  go_wp2_with fail
  go_loop [38] (fun i => i = .int .i64 0) (fun _ => 0)
  case atStart => rfl
  case round =>
    subst hrel
    go_wp2
    go_ret
    exact ⟨rfl, (Below.refl _ _).alloc (Nat.le_refl _) _⟩

set_option maxRecDepth 100000 in
set_option maxHeartbeats 4000000 in
theorem free_row_b (w : World) (B g cap : Nat) (es : List Ent) (sh : Bool) (lv n : Int) (hE : Ents w B (.slice (some ⟨g, 0, none⟩) es.length cap) es) (hT : takenB n = false) (hn : es.length ≤ 1048576) (hb0 : 0 ≤ n) (hb1 : n ≤ 1000000) (h0 : 2000 ≤ n) (h1 : n ≤ 2900) (h3 : n % 100 ≠ 0) :
    Calls Tryz.prog 35 #[.agg #[.slice (some ⟨g, 0, none⟩) es.length cap, .bool sh, .int .i64 lv], .int .i64 n] w fun e w' => e = .returned (.bool (freeE es n)) ∧ Below w.heap.size w w' := by
  have HT : Hid (takenB n = false) := hT
  clear hT
  have h2 : n < 4000 := by omega
  have h4 : (n % 100 == 0) = false := by simpa using h3
  have N := fun w => l1In_no n 1 9 (by omega) w
  clear h3
  go_enter Tryz.func35, Tryz.ntmps35
  go_wp2_with fail
  refine (N _).mono ?_
  rintro e' w1 ⟨rfl, rfl⟩
  clear N
  go_wp2_with fail
  go_loopw [38] (fun i wr => FrRel w es n i wr) (fun i _ => es.length - (intOf i).toNat)
  case atStart => exact ⟨0, Nat.zero_le _, rfl, fun j e hj => by omega, (Below.refl _ _).alloc (Nat.le_refl _) _⟩
  case round =>
    obtain ⟨k, hk, rfl, HN0, hb⟩ := hrel
    have HN : Hid (NotF es n k) := HN0
    clear HN0
    by_cases hlt : k < es.length
    · obtain ⟨e, he⟩ : ∃ e, es[k]? = some e := ⟨_, List.getElem?_eq_getElem hlt⟩
      obtain ⟨x, hI, a0, a1, a2, a3, a4⟩ := (hE.below hb).cells k e he
      obtain ⟨xa, xn, xc, rfl⟩ : ∃ xa xn xc, x = .slice xa xn xc := by
        rcases hI.form with ⟨rfl, _⟩ | ⟨_, _, rfl, _, _⟩
        · exact ⟨_, _, _, rfl⟩
        · exact ⟨_, _, _, rfl⟩
      have hk8 : (k : Int) < (es.length : Int) := by omega
      have HE : Hid _ := he
      clear he hE hI
      by_cases c : e.el.first = n
      · have HA : Hid (freeE es n = false) := freeE_hit (List.mem_of_getElem? HE.out) c
        have c' : (e.el.first == n) = true := by simpa using c
        clear HN HE c
        go_wp2
        go_ret
        rw [HA.out]
        exact ⟨rfl, hb.alloc hb.size _⟩
      · have HN2 : Hid (NotF es n (k + 1)) := HN.out.succ HE.out c
        have c' : (e.el.first == n) = false := by simpa using c
        clear HN HE c
        go_wp2
        exact ⟨⟨k + 1, by omega, by go_num, HN2.out, hb.alloc hb.size _⟩, by simp [intOf]; omega⟩
    · have HA : Hid (freeE es n = true) := freeE_all HT.out HN.out (by omega)
      clear HN hE HT
      go_wp2
      go_ret
      rw [HA.out]
      exact ⟨rfl, hb⟩

set_option maxRecDepth 100000 in
set_option maxHeartbeats 4000000 in
theorem free_nil_b (w : World)  (sh : Bool) (lv n : Int) (hb0 : 0 ≤ n) (hb1 : n ≤ 1000000) (h0 : 2000 ≤ n) (h1 : n ≤ 2900) (h3 : n % 100 ≠ 0) :
    Calls Tryz.prog 35 #[.agg #[.slice none 0 0, .bool sh, .int .i64 lv], .int .i64 n] w fun e w' => e = .returned (.bool true) ∧ Below w.heap.size w w' := by
  have h2 : n < 4000 := by omega
  have h4 : (n % 100 == 0) = false := by simpa using h3
  have N := fun w => l1In_no n 1 9 (by omega) w
  clear h3
  go_enter Tryz.func35, Tryz.ntmps35
  go_wp2_with fail
  refine (N _).mono ?_
  rintro e' w1 ⟨rfl, rfl⟩
  clear N
  go_wp2_with fail
  go_loop [38] (fun i => i = .int .i64 0) (fun _ => 0)
  case atStart => rfl
  case round =>
    subst hrel
    go_wp2
    go_ret
    exact ⟨rfl, (Below.refl _ _).alloc (Nat.le_refl _) _⟩

set_option maxRecDepth 100000 in
set_option maxHeartbeats 4000000 in
theorem free_row_c (w : World) (B g cap : Nat) (es : List Ent) (sh : Bool) (lv n : Int) (hE : Ents w B (.slice (some ⟨g, 0, none⟩) es.length cap) es) (hT : takenB n = false) (hn : es.length ≤ 1048576) (hb0 : 0 ≤ n) (hb1 : n ≤ 1000000) (h0 : 2900 < n) (h1 : n < 4000) :
    Calls Tryz.prog 35 #[.agg #[.slice (some ⟨g, 0, none⟩) es.length cap, .bool sh, .int .i64 lv], .int .i64 n] w fun e w' => e = .returned (.bool (freeE es n)) ∧ Below w.heap.size w w' := by
  have HT : Hid (takenB n = false) := hT
  clear hT
  have h2 : 2000 ≤ n := by omega
  have N := fun w => l1In_no n 1 9 (by omega) w
  go_enter Tryz.func35, Tryz.ntmps35
  go_wp2_with fail
  refine (N _).mono ?_
  rintro e' w1 ⟨rfl, rfl⟩
  clear N
  go_wp2_with fail
  go_loopw [38] (fun i wr => FrRel w es n i wr) (fun i _ => es.length - (intOf i).toNat)
  case atStart => exact ⟨0, Nat.zero_le _, rfl, fun j e hj => by omega, (Below.refl _ _).alloc (Nat.le_refl _) _⟩
  case round =>
    obtain ⟨k, hk, rfl, HN0, hb⟩ := hrel
    have HN : Hid (NotF es n k) := HN0
    clear HN0
    by_cases hlt : k < es.length
    · obtain ⟨e, he⟩ : ∃ e, es[k]? = some e := ⟨_, List.getElem?_eq_getElem hlt⟩
      obtain ⟨x, hI, a0, a1, a2, a3, a4⟩ := (hE.below hb).cells k e he
      obtain ⟨xa, xn, xc, rfl⟩ : ∃ xa xn xc, x = .slice xa xn xc := by
        rcases hI.form with ⟨rfl, _⟩ | ⟨_, _, rfl, _, _⟩
        · exact ⟨_, _, _, rfl⟩
        · exact ⟨_, _, _, rfl⟩
      have hk8 : (k : Int) < (es.length : Int) := by omega
      have HE : Hid _ := he
      clear he hE hI
      by_cases c : e.el.first = n
      · have HA : Hid (freeE es n = false) := freeE_hit (List.mem_of_getElem? HE.out) c
        have c' : (e.el.first == n) = true := by simpa using c
        clear HN HE c
        go_wp2
        go_ret
        rw [HA.out]
        exact ⟨rfl, hb.alloc hb.size _⟩
      · have HN2 : Hid (NotF es n (k + 1)) := HN.out.succ HE.out c
        have c' : (e.el.first == n) = false := by simpa using c
        clear HN HE c
        go_wp2
        exact ⟨⟨k + 1, by omega, by go_num, HN2.out, hb.alloc hb.size _⟩, by simp [intOf]; omega⟩
    · have HA : Hid (freeE es n = true) := freeE_all HT.out HN.out (by omega)
      clear HN hE HT
      go_wp2
      go_ret
      rw [HA.out]
      exact ⟨rfl, hb⟩

set_option maxRecDepth 100000 in
set_option maxHeartbeats 4000000 in
theorem free_nil_c (w : World)  (sh : Bool) (lv n : Int) (hb0 : 0 ≤ n) (hb1 : n ≤ 1000000) (h0 : 2900 < n) (h1 : n < 4000) :
    Calls Tryz.prog 35 #[.agg #[.slice none 0 0, .bool sh, .int .i64 lv], .int .i64 n] w fun e w' => e = .returned (.bool true) ∧ Below w.heap.size w w' := by
  have h2 : 2000 ≤ n := by omega
  have N := fun w => l1In_no n 1 9 (by omega) w
  go_enter Tryz.func35, Tryz.ntmps35
  go_wp2_with fail
  refine (N _).mono ?_
  rintro e' w1 ⟨rfl, rfl⟩
  clear N
  go_wp2_with fail
  go_loop [38] (fun i => i = .int .i64 0) (fun _ => 0)
  case atStart => rfl
  case round =>
    subst hrel
    go_wp2
    go_ret
    exact ⟨rfl, (Below.refl _ _).alloc (Nat.le_refl _) _⟩

set_option maxRecDepth 100000 in
set_option maxHeartbeats 4000000 in
theorem free_row_d (w : World) (B g cap : Nat) (es : List Ent) (sh : Bool) (lv n : Int) (hE : Ents w B (.slice (some ⟨g, 0, none⟩) es.length cap) es) (hT : takenB n = false) (hn : es.length ≤ 1048576) (hb0 : 0 ≤ n) (hb1 : n ≤ 1000000) (h0 : 4000 ≤ n) (h1 : n ≤ 9000) (h3 : n % 200 ≠ 0) :
    Calls Tryz.prog 35 #[.agg #[.slice (some ⟨g, 0, none⟩) es.length cap, .bool sh, .int .i64 lv], .int .i64 n] w fun e w' => e = .returned (.bool (freeE es n)) ∧ Below w.heap.size w w' := by
  have HT : Hid (takenB n = false) := hT
  clear hT
  have h2 : 2000 ≤ n := by omega
  have h5 : 2900 < n := by omega
  have h4 : (n % 200 == 0) = false := by simpa using h3
  have N := fun w => l1In_no n 1 9 (by omega) w
  clear h3
  go_enter Tryz.func35, Tryz.ntmps35
  go_wp2_with fail
  refine (N _).mono ?_
  rintro e' w1 ⟨rfl, rfl⟩
  clear N
  go_wp2_with fail
  go_loopw [38] (fun i wr => FrRel w es n i wr) (fun i _ => es.length - (intOf i).toNat)
  case atStart => exact ⟨0, Nat.zero_le _, rfl, fun j e hj => by omega, (Below.refl _ _).alloc (Nat.le_refl _) _⟩
  case round =>
    obtain ⟨k, hk, rfl, HN0, hb⟩ := hrel
    have HN : Hid (NotF es n k) := HN0
    clear HN0
    by_cases hlt : k < es.length
    · obtain ⟨e, he⟩ : ∃ e, es[k]? = some e := ⟨_, List.getElem?_eq_getElem hlt⟩
      obtain ⟨x, hI, a0, a1, a2, a3, a4⟩ := (hE.below hb).cells k e he
      obtain ⟨xa, xn, xc, rfl⟩ : ∃ xa xn xc, x = .slice xa xn xc := by
        rcases hI.form with ⟨rfl, _⟩ | ⟨_, _, rfl, _, _⟩
        · exact ⟨_, _, _, rfl⟩
        · exact ⟨_, _, _, rfl⟩
      have hk8 : (k : Int) < (es.length : Int) := by omega
      have HE : Hid _ := he
      clear he hE hI
      by_cases c : e.el.first = n
      · have HA : Hid (freeE es n = false) := freeE_hit (List.mem_of_getElem? HE.out) c
        have c' : (e.el.first == n) = true := by simpa using c
        clear HN HE c
        go_wp2
        go_ret
        rw [HA.out]
        exact ⟨rfl, hb.alloc hb.size _⟩
      · have HN2 : Hid (NotF es n (k + 1)) := HN.out.succ HE.out c
        have c' : (e.el.first == n) = false := by simpa using c
        clear HN HE c
        go_wp2
        exact ⟨⟨k + 1, by omega, by go_num, HN2.out, hb.alloc hb.size _⟩, by simp [intOf]; omega⟩
    · have HA : Hid (freeE es n = true) := freeE_all HT.out HN.out (by omega)
      clear HN hE HT
      go_wp2
      go_ret
      rw [HA.out]
      exact ⟨rfl, hb⟩

set_option maxRecDepth 100000 in
set_option maxHeartbeats 4000000 in
theorem free_nil_d (w : World)  (sh : Bool) (lv n : Int) (hb0 : 0 ≤ n) (hb1 : n ≤ 1000000) (h0 : 4000 ≤ n) (h1 : n ≤ 9000) (h3 : n % 200 ≠ 0) :
    Calls Tryz.prog 35 #[.agg #[.slice none 0 0, .bool sh, .int .i64 lv], .int .i64 n] w fun e w' => e = .returned (.bool true) ∧ Below w.heap.size w w' := by
  have h2 : 2000 ≤ n := by omega
  have h5 : 2900 < n := by omega
  have h4 : (n % 200 == 0) = false := by simpa using h3
  have N := fun w => l1In_no n 1 9 (by omega) w
  clear h3
  go_enter Tryz.func35, Tryz.ntmps35
  go_wp2_with fail
  refine (N _).mono ?_
  rintro e' w1 ⟨rfl, rfl⟩
  clear N
  go_wp2_with fail
  go_loop [38] (fun i => i = .int .i64 0) (fun _ => 0)
  case atStart => rfl
  case round =>
    subst hrel
    go_wp2
    go_ret
    exact ⟨rfl, (Below.refl _ _).alloc (Nat.le_refl _) _⟩

set_option maxRecDepth 100000 in
set_option maxHeartbeats 4000000 in
theorem free_row_e (w : World) (B g cap : Nat) (es : List Ent) (sh : Bool) (lv n : Int) (hE : Ents w B (.slice (some ⟨g, 0, none⟩) es.length cap) es) (hT : takenB n = false) (hn : es.length ≤ 1048576) (hb0 : 0 ≤ n) (hb1 : n ≤ 1000000) (h0 : 9000 < n) :
    Calls Tryz.prog 35 #[.agg #[.slice (some ⟨g, 0, none⟩) es.length cap, .bool sh, .int .i64 lv], .int .i64 n] w fun e w' => e = .returned (.bool (freeE es n)) ∧ Below w.heap.size w w' := by
  have HT : Hid (takenB n = false) := hT
  clear hT
  have h2 : 2000 ≤ n := by omega
  have h5 : 2900 < n := by omega
  have h6 : 4000 ≤ n := by omega
  have N := fun w => l1In_no n 1 9 (by omega) w
  go_enter Tryz.func35, Tryz.ntmps35
  go_wp2_with fail
  refine (N _).mono ?_
  rintro e' w1 ⟨rfl, rfl⟩
  clear N
  go_wp2_with fail
  go_loopw [38] (fun i wr => FrRel w es n i wr) (fun i _ => es.length - (intOf i).toNat)
  case atStart => exact ⟨0, Nat.zero_le _, rfl, fun j e hj => by omega, (Below.refl _ _).alloc (Nat.le_refl _) _⟩
  case round =>
    obtain ⟨k, hk, rfl, HN0, hb⟩ := hrel
    have HN : Hid (NotF es n k) := HN0
    clear HN0
    by_cases hlt : k < es.length
    · obtain ⟨e, he⟩ : ∃ e, es[k]? = some e := ⟨_, List.getElem?_eq_getElem hlt⟩
      obtain ⟨x, hI, a0, a1, a2, a3, a4⟩ := (hE.below hb).cells k e he
      obtain ⟨xa, xn, xc, rfl⟩ : ∃ xa xn xc, x = .slice xa xn xc := by
        rcases hI.form with ⟨rfl, _⟩ | ⟨_, _, rfl, _, _⟩
        · exact ⟨_, _, _, rfl⟩
        · exact ⟨_, _, _, rfl⟩
      have hk8 : (k : Int) < (es.length : Int) := by omega
      have HE : Hid _ := he
      clear he hE hI
      by_cases c : e.el.first = n
      · have HA : Hid (freeE es n = false) := freeE_hit (List.mem_of_getElem? HE.out) c
        have c' : (e.el.first == n) = true := by simpa using c
        clear HN HE c
        go_wp2
        go_ret
        rw [HA.out]
        exact ⟨rfl, hb.alloc hb.size _⟩
      · have HN2 : Hid (NotF es n (k + 1)) := HN.out.succ HE.out c
        have c' : (e.el.first == n) = false := by simpa using c
        clear HN HE c
        go_wp2
        exact ⟨⟨k + 1, by omega, by go_num, HN2.out, hb.alloc hb.size _⟩, by simp [intOf]; omega⟩
    · have HA : Hid (freeE es n = true) := freeE_all HT.out HN.out (by omega)
      clear HN hE HT
      go_wp2
      go_ret
      rw [HA.out]
      exact ⟨rfl, hb⟩

set_option maxRecDepth 100000 in
set_option maxHeartbeats 4000000 in
theorem free_nil_e (w : World)  (sh : Bool) (lv n : Int) (hb0 : 0 ≤ n) (hb1 : n ≤ 1000000) (h0 : 9000 < n) :
    Calls Tryz.prog 35 #[.agg #[.slice none 0 0, .bool sh, .int .i64 lv], .int .i64 n] w fun e w' => e = .returned (.bool true) ∧ Below w.heap.size w w' := by
  have h2 : 2000 ≤ n := by omega
  have h5 : 2900 < n := by omega
  have h6 : 4000 ≤ n := by omega
  have N := fun w => l1In_no n 1 9 (by omega) w
  go_enter Tryz.func35, Tryz.ntmps35
  go_wp2_with fail
  refine (N _).mono ?_
  rintro e' w1 ⟨rfl, rfl⟩
  clear N
  go_wp2_with fail
  go_loop [38] (fun i => i = .int .i64 0) (fun _ => 0)
  case atStart => rfl
  case round =>
    subst hrel
    go_wp2
    go_ret
    exact ⟨rfl, (Below.refl _ _).alloc (Nat.le_refl _) _⟩

set_option maxRecDepth 100000 in
set_option maxHeartbeats 1000000 in
theorem free_taken (w : World) (v : Value) (sh : Bool) (lv n : Int) (hb0 : 0 ≤ n) (hb1 : n ≤ 1000000) (h : takenB n = true) :
    Calls Tryz.prog 35 #[.agg #[v, .bool sh, .int .i64 lv], .int .i64 n] w fun e w' => e = .returned (.bool false) ∧ Below w.heap.size w w' := by
  rcases of_decide_eq_true h with ⟨h1, h2, h3⟩ | ⟨h1, h2, h3⟩ | h1
  · have h4 : (n % 100 == 0) = true := by simpa using h3
    clear h h3
    go_enter Tryz.func35, Tryz.ntmps35
    go_wp2
    go_ret
    exact ⟨rfl, (Below.refl _ _).alloc (Nat.le_refl _) _⟩
  · have h4 : (n % 200 == 0) = true := by simpa using h3
    have h5 : 2000 ≤ n := by omega
    have h6 : 2900 < n := by omega
    clear h h3
    go_enter Tryz.func35, Tryz.ntmps35
    go_wp2
    go_ret
    exact ⟨rfl, (Below.refl _ _).alloc (Nat.le_refl _) _⟩
  · have Y := fun w => l1In_yes n 1 9 h1 w
    have h5 : n < 2000 := by omega
    have h6 : n < 4000 := by omega
    clear h
    go_enter Tryz.func35, Tryz.ntmps35
    go_wp2_with fail
    refine (Y _).mono ?_
    rintro e' w1 ⟨rfl, rfl⟩
    clear Y
    go_wp2
    go_ret
    exact ⟨rfl, (Below.refl _ _).alloc (Nat.le_refl _) _⟩

theorem free_any {w : World} {B : Nat} {v : Value} {es : List Ent} {sh : Bool} {lv n : Int} (hE : Ents w B v es) (hn : es.length ≤ 1048576) (hb0 : 0 ≤ n) (hb1 : n ≤ 1000000) :
    Calls Tryz.prog 35 #[.agg #[v, .bool sh, .int .i64 lv], .int .i64 n] w fun e w' => e = .returned (.bool (freeE es n)) ∧ Below w.heap.size w w' := by
  cases ht : takenB n
  · have hno := of_decide_eq_false ht
    rcases hE.form with ⟨rfl, rfl⟩ | ⟨g, cap, rfl, _, _, _, _⟩
    · have e0 : freeE [] n = true := by unfold freeE; rw [ht]; rfl
      rw [e0]
      by_cases c1 : n < 2000
      · exact free_nil_a w sh lv n hb0 hb1 c1 (fun h => hno (.inr (.inr h)))
      by_cases c2 : n ≤ 2900
      · exact free_nil_b w sh lv n hb0 hb1 (by omega) c2 (fun h => hno (.inl ⟨by omega, c2, h⟩))
      by_cases c3 : n < 4000
      · exact free_nil_c w sh lv n hb0 hb1 (by omega) c3
      by_cases c4 : n ≤ 9000
      · exact free_nil_d w sh lv n hb0 hb1 (by omega) c4 (fun h => hno (.inr (.inl ⟨by omega, c4, h⟩)))
      exact free_nil_e w sh lv n hb0 hb1 (by omega)
    · by_cases c1 : n < 2000
      · exact free_row_a w B g cap es sh lv n hE ht hn hb0 hb1 c1 (fun h => hno (.inr (.inr h)))
      by_cases c2 : n ≤ 2900
      · exact free_row_b w B g cap es sh lv n hE ht hn hb0 hb1 (by omega) c2 (fun h => hno (.inl ⟨by omega, c2, h⟩))
      by_cases c3 : n < 4000
      · exact free_row_c w B g cap es sh lv n hE ht hn hb0 hb1 (by omega) c3
      by_cases c4 : n ≤ 9000
      · exact free_row_d w B g cap es sh lv n hE ht hn hb0 hb1 (by omega) c4 (fun h => hno (.inr (.inl ⟨by omega, c4, h⟩)))
      exact free_row_e w B g cap es sh lv n hE ht hn hb0 hb1 (by omega)
  · have e0 : freeE es n = false := by unfold freeE; rw [ht]; rfl
    rw [e0]
    exact free_taken w v sh lv n hb0 hb1 ht
end Go.Proofs.YtakfnmhokijcoaaGreatDoor
