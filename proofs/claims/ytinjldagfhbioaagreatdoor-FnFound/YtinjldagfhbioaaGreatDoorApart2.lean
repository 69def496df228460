/- Contract of the specification's l2Apart: what a rune is taken apart into, in one step, in memory of its own. -/
import Derived.Test.YtinjldagfhbioaaGreatDoorTable3
namespace Go.Proofs.YtinjldagfhbioaaGreatDoor
open Go.RowKit

def head3 (t : List Int) : Int := at0 t 0

theorem l1In_yes (r lo hi : Int) (h : lo ≤ r ∧ r ≤ hi) (w : World) : Calls Tryz.prog 40 #[.int .i64 r, .int .i64 lo, .int .i64 hi] w fun e w' => e = .returned (.bool true) ∧ w' = w := by
  obtain ⟨h1, h2⟩ := h
  go_enter Tryz.func40, Tryz.ntmps40
  go_wp2
  go_ret
  exact ⟨ret_b (by simp; try omega), rfl⟩

theorem l1In_no (r lo hi : Int) (h : ¬ (lo ≤ r ∧ r ≤ hi)) (w : World) : Calls Tryz.prog 40 #[.int .i64 r, .int .i64 lo, .int .i64 hi] w fun e w' => e = .returned (.bool false) ∧ w' = w := by
  by_cases h1 : lo ≤ r
  · have h2 : ¬ r ≤ hi := fun h2 => h ⟨h1, h2⟩
    clear h
    go_enter Tryz.func40, Tryz.ntmps40
    go_wp2
    go_ret
    exact ⟨ret_b (by simp; try omega), rfl⟩
  · clear h
    go_enter Tryz.func40, Tryz.ntmps40
    go_wp2
    go_ret
    exact ⟨ret_b (by simp; try omega), rfl⟩

/-- No row ahead of place k begins with r. -/
def NoneTo (r : Int) (k : Nat) : Prop := ∀ j t, j < k → tab[j]? = some t → at0 t 0 ≠ r

theorem find_at (r : Int) (k : Nat) (t : List Int) (h : NoneTo r k) (ht : tab[k]? = some t) (hr : at0 t 0 = r) : tab.find? (fun t => at0 t 0 == r) = some t := by
  rw [List.find?_eq_some_iff_getElem]
  obtain ⟨hk, e⟩ := List.getElem?_eq_some_iff.1 ht
  refine ⟨by simp [hr], k, hk, e, fun j hj => ?_⟩
  have := h j tab[j] hj (List.getElem?_eq_getElem (by omega))
  simpa using this

theorem find_no (r : Int) (k : Nat) (h : NoneTo r k) (hk : ¬ k < tab.length) : tab.find? (fun t => at0 t 0 == r) = none := by
  rw [List.find?_eq_none]
  intro t ht
  obtain ⟨j, hj⟩ := List.mem_iff_getElem?.1 ht
  have := (List.getElem?_eq_some_iff.1 hj).1
  simpa using h j t (by omega) hj

theorem ints_low2 {w : World} {B B' : Nat} {v : Value} {zs : List Int} (h : Ints w B' v zs) (hB : B ≤ B') : Ints w B v zs := by
  obtain ⟨h1, h2⟩ := h
  refine ⟨h1, ?_⟩
  rcases h2 with h2 | ⟨g, cap, cur, a, b, c⟩
  · exact .inl h2
  · exact .inr ⟨g, cap, cur, a, by omega, c⟩

theorem lit_ints (w : World) (zs : List Int) (n : Nat) (hn : zs.length = n) (hz : n ≤ maxLen) (cs : Array Value) (hcs : cs = (zs.map (Value.int .i64)).toArray) : Ints (w.alloc (.cells cs 3)) w.heap.size (.slice (some ⟨w.heap.size, 0, none⟩) n n) zs := by
  subst hn
  exact ints_block zs hcs (heap_alloc_new w _) (Nat.le_refl _) hz

set_option maxRecDepth 100000 in
set_option maxHeartbeats 2000000 in
theorem apart_tab (w : World) (r : Int) (h1 : r ≠ 8491) (h2 : ¬ (44032 ≤ r ∧ r ≤ 55203)) :
    Calls Tryz.prog 83 #[.int .i64 r] w fun e w' => ∃ v, e = .returned v ∧ Ints w' w.heap.size v (apart r) ∧ Below w.heap.size w w' := by
  have ha : apart r = match tab.find? (fun t => at0 t 0 == r) with | some t => [at0 t 1, at0 t 2] | none => [r] := by
    unfold apart; rw [if_neg h1, if_neg h2]; rfl
  have HA : Hid _ := ha
  have hb1 : (r == 8491) = false := by simpa using h1
  have N := fun w => l1In_no r 44032 55203 h2 w
  have T := fun w => table_any w
  clear ha h1 h2
  go_enter Tryz.func83, Tryz.ntmps83
  go_wp2_with fail
  refine (N _).mono ?_
  rintro e w1 ⟨rfl, rfl⟩
  go_wp2_with fail
  refine (T _).mono ?_
  rintro e w2 ⟨v, rfl, ⟨vs, hown, hin⟩, hb⟩
  rw [tab_len] at hown
  obtain ⟨g, cap, rfl⟩ : ∃ g cap, v = .slice (some ⟨g, 0, none⟩) 57 cap := by
    rcases hown.2 with ⟨_, h0⟩ | ⟨g, cap, _, h, _⟩
    · omega
    · exact ⟨g, cap, h⟩
  clear T N
  go_wp2_with fail
  go_loop [34] (fun i => ∃ k : Nat, k ≤ 57 ∧ i = .int .i64 k ∧ Hid (NoneTo r k)) (fun i => 57 - (intOf i).toNat)
  case atStart => exact ⟨0, Nat.zero_le _, rfl, fun j t hj => by omega⟩
  case round =>
    obtain ⟨k, hk, rfl, HN⟩ := hrel
    by_cases hlt : k < 57
    · obtain ⟨t, ht⟩ : ∃ t, tab[k]? = some t := ⟨_, List.getElem?_eq_getElem (by rw [tab_len]; exact hlt)⟩
      obtain ⟨x, hx, hI⟩ := hin k t ht
      have hl3 := tab_three t (List.mem_of_getElem? ht)
      have c0 := hown.cellAt k (by omega)
      rw [hx] at c0
      obtain ⟨a, b, c, rfl⟩ : ∃ a b c, t = [a, b, c] := by
        match t, hl3 with
        | [a, b, c], _ => exact ⟨a, b, c, rfl⟩
      rcases hI.form with ⟨_, h0⟩ | ⟨h, cap', rfl, hcap, hcapm⟩
      · cases h0
      have d0 : w2.cell? ⟨h, 0, none⟩ = some (.int .i64 a) := hI.cellAt 0 (by simp)
      have d1 : w2.cell? ⟨h, 1, none⟩ = some (.int .i64 b) := hI.cellAt 1 (by simp)
      have d2 : w2.cell? ⟨h, 2, none⟩ = some (.int .i64 c) := hI.cellAt 2 (by simp)
      simp only [List.length_cons, List.length_nil] at c0 hcap
      have HT : Hid _ := ht
      have hk8 : (k : Int) < 57 := by omega
      clear hin hown ht hx hI
      by_cases e : a = r
      · subst e
        have HF := find_at a k _ HN.out HT.out rfl
        have HR : Hid (apart a = [b, c]) := by show _ = _; rw [HA.out, HF]; rfl
        clear HF HA
        go_wp2_with fail
        go_region
        go_wp2
        go_ret
        rw [HR.out]
        exact ⟨_, rfl, ints_low2 (lit_ints w2 [b, c] 2 rfl (by unfold maxLen; omega) _ rfl) hb.size, (hb.alloc hb.size _).drew⟩
      · have e2 : (a == r) = false := by simpa using e
        have HN2 : Hid (NoneTo r (k + 1)) := by
          intro j t hj h
          by_cases ej : j = k
          · subst ej; rw [HT.out] at h; cases h; exact e
          · exact HN.out j t (by omega) h
        clear e HA
        go_wp2
        exact ⟨⟨k + 1, by omega, by go_num, HN2⟩, by simp [intOf]; omega⟩
    · have HF := find_no r k HN.out (by rw [tab_len]; exact hlt)
      have HR : Hid (apart r = [r]) := by show _ = _; rw [HA.out, HF]
      clear HF HA hin hown
      go_wp2
      go_ret
      rw [HR.out]
      exact ⟨_, rfl, ints_low2 (lit_ints w2 [r] 1 rfl (by unfold maxLen; omega) _ rfl) hb.size, hb.alloc hb.size _⟩

theorem heap3c (w : World) (o1 o2 o3 : Obj) : (((w.alloc o1).alloc o2).alloc o3).heap[w.heap.size + 1 + 1]? = some o3 := by
  have e : ((w.alloc o1).alloc o2).heap.size = w.heap.size + 1 + 1 := by simp
  rw [← e]
  exact heap_alloc_new _ o3

theorem cut3 (w : World) : 3 ≤ (Question.appendCap 3 2 3).cut (w.tape w.drawn (Question.appendCap 3 2 3)) ∧ (Question.appendCap 3 2 3).cut (w.tape w.drawn (Question.appendCap 3 2 3)) ≤ maxLen :=
  ⟨grownCap_ge w 3 2 3, grownCap_le_maxLen w 3 2 3 (by unfold maxLen; omega)⟩

set_option maxRecDepth 100000 in
set_option maxHeartbeats 2000000 in
theorem apart_one (w : World) : Calls Tryz.prog 83 #[.int .i64 8491] w fun e w' => ∃ v, e = .returned v ∧ Ints w' w.heap.size v (apart 8491) ∧ Below w.heap.size w w' := by
  have ha : apart 8491 = [197] := by decide
  rw [ha]
  go_enter Tryz.func83, Tryz.ntmps83
  go_wp2
  go_ret
  exact ⟨_, rfl, lit_ints w [197] 1 rfl (by unfold maxLen; omega) _ rfl, (Below.refl _ _).alloc (Nat.le_refl _) _⟩

set_option maxRecDepth 100000 in
set_option maxHeartbeats 2000000 in
theorem apart_three (w : World) (r : Int) (h1 : 44032 ≤ r) (h2 : r ≤ 55203) : Calls Tryz.prog 83 #[.int .i64 r] w fun e w' => ∃ v, e = .returned v ∧ Ints w' w.heap.size v (apart r) ∧ Below w.heap.size w w' := by
  have Y := fun w => l1In_yes r 44032 55203 ⟨h1, h2⟩ w
  have hb1 : (r == 8491) = false := by simp; omega
  have ha : apart r = [4352 + (r - 44032) / 588, 4449 + (r - 44032) % 588 / 28] ++ (if 0 < (r - 44032) % 28 then [4519 + (r - 44032) % 28] else []) := by
    unfold apart; rw [if_neg (by omega), if_pos ⟨h1, h2⟩]
  by_cases c : 0 < (r - 44032) % 28
  · have HA : Hid (apart r = [4352 + (r - 44032) / 588, 4449 + (r - 44032) % 588 / 28] ++ [4519 + (r - 44032) % 28]) := by show _ = _; rw [ha, if_pos c]
    clear ha
    go_enter Tryz.func83, Tryz.ntmps83
    go_wp2_with fail
    refine (Y _).mono ?_
    rintro e w1 ⟨rfl, rfl⟩
    clear Y
    go_wp2
    go_ret
    rw [HA.out]
    have hc := cut3 w1
    refine ⟨_, rfl, ints_app _ 3 rfl ?_ ?_ (heap3c w1 _ _ _) (by omega) hc.1 hc.2, ((((Below.refl _ _).alloc (Nat.le_refl _) _).alloc (by simp) _).alloc (by simp; omega) _).drew⟩
    · simp
    · simp [size_zeroCells]; omega
  · have HA : Hid (apart r = [4352 + (r - 44032) / 588, 4449 + (r - 44032) % 588 / 28]) := by show _ = _; rw [ha, if_neg c]; simp
    clear ha
    go_enter Tryz.func83, Tryz.ntmps83
    go_wp2_with fail
    refine (Y _).mono ?_
    rintro e w1 ⟨rfl, rfl⟩
    clear Y
    go_wp2
    go_ret
    rw [HA.out]
    exact ⟨_, rfl, lit_ints w1 _ 2 rfl (by unfold maxLen; omega) _ rfl, (Below.refl _ _).alloc (Nat.le_refl _) _⟩

theorem apart_any (w : World) (r : Int) : Calls Tryz.prog 83 #[.int .i64 r] w fun e w' => ∃ v, e = .returned v ∧ Ints w' w.heap.size v (apart r) ∧ Below w.heap.size w w' := by
  by_cases h1 : r = 8491
  · subst h1; exact apart_one w
  by_cases h2 : 44032 ≤ r ∧ r ≤ 55203
  · exact apart_three w r h2.1 h2.2
  · exact apart_tab w r h1 h2
end Go.Proofs.YtinjldagfhbioaaGreatDoor
