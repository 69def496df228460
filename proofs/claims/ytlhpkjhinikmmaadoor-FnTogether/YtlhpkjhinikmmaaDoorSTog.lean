/- Contracts of the specification's l2Together, TogetherOf and ApartOf. -/
import Derived.Test.YtlhpkjhinikmmaaDoorITog
import Derived.Test.YtlhpkjhinikmmaaDoorApart2
import Derived.Test.YtlhpkjhinikmmaaDoorIApart
namespace Go.Proofs.YtlhpkjhinikmmaaDoor
open Go.RowKit

/-- No row of the table ahead of place k is the one looked for. -/
def NoneT (p : List Int → Bool) (k : Nat) : Prop := ∀ j t, j < k → tab[j]? = some t → p t = false

theorem NoneT.succ {p : List Int → Bool} {k : Nat} {t : List Int} (h : NoneT p k) (ht : tab[k]? = some t) (hp : p t = false) : NoneT p (k + 1) := by
  intro j u hj hu
  by_cases e : j = k
  · subst e; rw [ht] at hu; cases hu; exact hp
  · exact h j u (by omega) hu

theorem findT_at {p : List Int → Bool} {k : Nat} {t : List Int} (h : NoneT p k) (ht : tab[k]? = some t) (hp : p t = true) : tab.find? p = some t := by
  rw [List.find?_eq_some_iff_getElem]
  obtain ⟨hk, e⟩ := List.getElem?_eq_some_iff.1 ht
  refine ⟨hp, k, hk, e, fun j hj => ?_⟩
  have := h j tab[j] hj (List.getElem?_eq_getElem (by omega))
  simpa using this

theorem findT_no {p : List Int → Bool} {k : Nat} (h : NoneT p k) (hk : 57 ≤ k) : tab.find? p = none := by
  rw [List.find?_eq_none]
  intro t ht
  obtain ⟨j, hj⟩ := List.mem_iff_getElem?.1 ht
  have h1 := (List.getElem?_eq_some_iff.1 hj).1
  have h2 := tab_len
  simpa using h j t (by omega) hj

theorem tog_tab {a b : Int} (h : sylT a b = none) : tog a b = (tab.find? (byParts a b)).map (fun t => at0 t 0) := by
  rw [tog_eq, h, show byParts a b = fun t => at0 t 1 == a && at0 t 2 == b from rfl, tabI_parts]

theorem tog_syl {a b x : Int} (h : sylT a b = some x) : tog a b = some x := by rw [tog_eq, h]

set_option maxRecDepth 100000 in
set_option maxHeartbeats 4000000 in
theorem specTog_any (a b : Int) (w : World) :
    Calls Tryd.prog 31 #[.int .i64 a, .int .i64 b] w fun e w' => e = .returned (togRes (tog a b)) ∧ Below w.heap.size w w' := by
  have T := fun w => table_any w
  by_cases p : 4352 ≤ a ∧ a ≤ 4370
  · have A := fun w => l1In_yes a 4352 4370 p w
    by_cases q : 4449 ≤ b ∧ b ≤ 4469
    · have B := fun w => l1In_yes b 4449 4469 q w
      have HT : Hid (tog a b = some (44032 + (a - 4352) * 588 + (b - 4449) * 28)) := tog_syl (by unfold sylT; rw [if_pos ⟨p.1, p.2, q.1, q.2⟩])
      obtain ⟨p1, p2⟩ := p
      obtain ⟨q1, q2⟩ := q
      clear T
      go_enter Tryd.func31, Tryd.ntmps31
      go_wp2_with fail
      refine (A _).mono ?_
      rintro e w1 ⟨rfl, rfl⟩
      go_wp2_with fail
      refine (B _).mono ?_
      rintro e w1 ⟨rfl, rfl⟩
      go_wp2
      go_ret2
      exact ⟨ret_t HT.out, Below.refl _ _⟩
    · have B := fun w => l1In_no b 4449 4469 q w
      have C := fun w => l1In_no a 44032 55203 (fun h => by omega) w
      have HS : Hid _ := tog_tab (a := a) (b := b) (sylT_none (fun h => q h.2.2) (fun h => by have := h.1.1; omega))
      clear p q
      go_enter Tryd.func31, Tryd.ntmps31
      go_wp2_with fail
      refine (A _).mono ?_
      rintro e w1 ⟨rfl, rfl⟩
      go_wp2_with fail
      refine (B _).mono ?_
      rintro e w1 ⟨rfl, rfl⟩
      go_wp2_with fail
      refine (C _).mono ?_
      rintro e w1 ⟨rfl, rfl⟩
      clear A B C
      go_wp2_with fail
      refine (T _).mono ?_
      rintro e w2 ⟨v, rfl, ⟨vs, hown, hin⟩, hb⟩
      rw [tab_len] at hown
      obtain ⟨g, cap, rfl⟩ : ∃ g cap, v = .slice (some ⟨g, 0, none⟩) 57 cap := by
        rcases hown.2 with ⟨_, h0⟩ | ⟨g, cap, _, h, _⟩
        · omega
        · exact ⟨g, cap, h⟩
      clear T
      go_wp2_with fail
      go_loop [40] (fun i => ∃ k : Nat, k ≤ 57 ∧ i = .int .i64 k ∧ Hid (NoneT (byParts a b) k)) (fun i => 57 - (intOf i).toNat)
      case atStart => exact ⟨0, Nat.zero_le _, rfl, fun j t hj => by omega⟩
      case round =>
        obtain ⟨k, hk, rfl, HN⟩ := hrel
        by_cases hlt : k < 57
        · obtain ⟨t, ht⟩ : ∃ t, tab[k]? = some t := ⟨_, List.getElem?_eq_getElem (by rw [tab_len]; exact hlt)⟩
          obtain ⟨x, hx, hI⟩ := hin k t ht
          have hl3 := tab_three t (List.mem_of_getElem? ht)
          have c0 := hown.cellAt k (by omega)
          rw [hx] at c0
          obtain ⟨x0, x1, x2, rfl⟩ : ∃ x0 x1 x2, t = [x0, x1, x2] := by
            match t, hl3 with
            | [x0, x1, x2], _ => exact ⟨x0, x1, x2, rfl⟩
          rcases hI.form with ⟨_, h0⟩ | ⟨h, cap', rfl, hcap, hcapm⟩
          · cases h0
          have d0 : w2.cell? ⟨h, 0, none⟩ = some (.int .i64 x0) := hI.cellAt 0 (by simp)
          have d1 : w2.cell? ⟨h, 1, none⟩ = some (.int .i64 x1) := hI.cellAt 1 (by simp)
          have d2 : w2.cell? ⟨h, 2, none⟩ = some (.int .i64 x2) := hI.cellAt 2 (by simp)
          simp only [List.length_cons, List.length_nil] at c0 hcap
          have HT : Hid _ := ht
          have hk8 : (k : Int) < 57 := by omega
          clear hin hown ht hx hI
          by_cases e : x1 = a ∧ x2 = b
          · have HF : Hid (tog a b = some x0) := by
              show _ = _
              rw [HS.out, findT_at HN.out HT.out (byParts_yes e.1 e.2)]; rfl
            have e1 : (x1 == a) = true := by simpa using e.1
            have e2 : (x2 == b) = true := by simpa using e.2
            clear e HN HT HS
            go_wp2
            go_ret2
            exact ⟨ret_t HF.out, hb⟩
          · have HN2 : Hid (NoneT (byParts a b) (k + 1)) := HN.out.succ HT.out (byParts_no e)
            clear HN HT HS
            by_cases e1 : x1 = a
            · have e2 : (x2 == b) = false := by simpa using fun h => e ⟨e1, h⟩
              have e1' : (x1 == a) = true := by simpa using e1
              clear e e1
              go_wp2
              exact ⟨⟨k + 1, by omega, by go_num, HN2⟩, by simp [intOf]; omega⟩
            · have e1' : (x1 == a) = false := by simpa using e1
              clear e e1
              go_wp2
              exact ⟨⟨k + 1, by omega, by go_num, HN2⟩, by simp [intOf]; omega⟩
        · have HF : Hid (tog a b = none) := by
            show _ = _
            rw [HS.out, findT_no HN.out (by omega)]; rfl
          clear HN HS hin hown
          go_wp2
          go_ret2
          exact ⟨ret_t0 HF.out, hb⟩
  · have A := fun w => l1In_no a 4352 4370 p w
    by_cases q : 44032 ≤ a ∧ a ≤ 55203
    · have B := fun w => l1In_yes a 44032 55203 q w
      obtain ⟨q1, q2⟩ := q
      by_cases m : (a - 44032) % 28 = 0
      · have m2 : ((a - 44032) % 28 == 0) = true := by simpa using m
        by_cases s : 4520 ≤ b ∧ b ≤ 4546
        · have C := fun w => l1In_yes b 4520 4546 s w
          have HT : Hid (tog a b = some (a + b - 4519)) := tog_syl (by unfold sylT; rw [if_neg (fun h => p ⟨h.1, h.2.1⟩), if_pos ⟨⟨q1, q2⟩, m, s⟩])
          obtain ⟨s1, s2⟩ := s
          clear T m p
          go_enter Tryd.func31, Tryd.ntmps31
          go_wp2_with fail
          refine (A _).mono ?_
          rintro e w1 ⟨rfl, rfl⟩
          go_wp2_with fail
          refine (B _).mono ?_
          rintro e w1 ⟨rfl, rfl⟩
          go_wp2_with fail
          refine (C _).mono ?_
          rintro e w1 ⟨rfl, rfl⟩
          go_wp2
          go_ret2
          exact ⟨ret_t HT.out, Below.refl _ _⟩
        · have C := fun w => l1In_no b 4520 4546 s w
          have HS : Hid _ := tog_tab (a := a) (b := b) (sylT_none (fun h => p ⟨h.1, h.2.1⟩) (fun h => s h.2))
          clear m p s
          go_enter Tryd.func31, Tryd.ntmps31
          go_wp2_with fail
          refine (A _).mono ?_
          rintro e w1 ⟨rfl, rfl⟩
          go_wp2_with fail
          refine (B _).mono ?_
          rintro e w1 ⟨rfl, rfl⟩
          go_wp2_with fail
          refine (C _).mono ?_
          rintro e w1 ⟨rfl, rfl⟩
          clear A B C
          go_wp2_with fail
          refine (T _).mono ?_
          rintro e w2 ⟨v, rfl, ⟨vs, hown, hin⟩, hb⟩
          rw [tab_len] at hown
          obtain ⟨g, cap, rfl⟩ : ∃ g cap, v = .slice (some ⟨g, 0, none⟩) 57 cap := by
            rcases hown.2 with ⟨_, h0⟩ | ⟨g, cap, _, h, _⟩
            · omega
            · exact ⟨g, cap, h⟩
          clear T
          go_wp2_with fail
          go_loop [40] (fun i => ∃ k : Nat, k ≤ 57 ∧ i = .int .i64 k ∧ Hid (NoneT (byParts a b) k)) (fun i => 57 - (intOf i).toNat)
          case atStart => exact ⟨0, Nat.zero_le _, rfl, fun j t hj => by omega⟩
          case round =>
            obtain ⟨k, hk, rfl, HN⟩ := hrel
            by_cases hlt : k < 57
            · obtain ⟨t, ht⟩ : ∃ t, tab[k]? = some t := ⟨_, List.getElem?_eq_getElem (by rw [tab_len]; exact hlt)⟩
              obtain ⟨x, hx, hI⟩ := hin k t ht
              have hl3 := tab_three t (List.mem_of_getElem? ht)
              have c0 := hown.cellAt k (by omega)
              rw [hx] at c0
              obtain ⟨x0, x1, x2, rfl⟩ : ∃ x0 x1 x2, t = [x0, x1, x2] := by
                match t, hl3 with
                | [x0, x1, x2], _ => exact ⟨x0, x1, x2, rfl⟩
              rcases hI.form with ⟨_, h0⟩ | ⟨h, cap', rfl, hcap, hcapm⟩
              · cases h0
              have d0 : w2.cell? ⟨h, 0, none⟩ = some (.int .i64 x0) := hI.cellAt 0 (by simp)
              have d1 : w2.cell? ⟨h, 1, none⟩ = some (.int .i64 x1) := hI.cellAt 1 (by simp)
              have d2 : w2.cell? ⟨h, 2, none⟩ = some (.int .i64 x2) := hI.cellAt 2 (by simp)
              simp only [List.length_cons, List.length_nil] at c0 hcap
              have HT : Hid _ := ht
              have hk8 : (k : Int) < 57 := by omega
              clear hin hown ht hx hI
              by_cases e : x1 = a ∧ x2 = b
              · have HF : Hid (tog a b = some x0) := by
                  show _ = _
                  rw [HS.out, findT_at HN.out HT.out (byParts_yes e.1 e.2)]; rfl
                have e1 : (x1 == a) = true := by simpa using e.1
                have e2 : (x2 == b) = true := by simpa using e.2
                clear e HN HT HS
                go_wp2
                go_ret2
                exact ⟨ret_t HF.out, hb⟩
              · have HN2 : Hid (NoneT (byParts a b) (k + 1)) := HN.out.succ HT.out (byParts_no e)
                clear HN HT HS
                by_cases e1 : x1 = a
                · have e2 : (x2 == b) = false := by simpa using fun h => e ⟨e1, h⟩
                  have e1' : (x1 == a) = true := by simpa using e1
                  clear e e1
                  go_wp2
                  exact ⟨⟨k + 1, by omega, by go_num, HN2⟩, by simp [intOf]; omega⟩
                · have e1' : (x1 == a) = false := by simpa using e1
                  clear e e1
                  go_wp2
                  exact ⟨⟨k + 1, by omega, by go_num, HN2⟩, by simp [intOf]; omega⟩
            · have HF : Hid (tog a b = none) := by
                show _ = _
                rw [HS.out, findT_no HN.out (by omega)]; rfl
              clear HN HS hin hown
              go_wp2
              go_ret2
              exact ⟨ret_t0 HF.out, hb⟩
      · have m2 : ((a - 44032) % 28 == 0) = false := by simpa using m
        have HS : Hid _ := tog_tab (a := a) (b := b) (sylT_none (fun h => p ⟨h.1, h.2.1⟩) (fun h => m h.1.2.2))
        clear m p
        go_enter Tryd.func31, Tryd.ntmps31
        go_wp2_with fail
        refine (A _).mono ?_
        rintro e w1 ⟨rfl, rfl⟩
        go_wp2_with fail
        refine (B _).mono ?_
        rintro e w1 ⟨rfl, rfl⟩
        clear A B
        go_wp2_with fail
        refine (T _).mono ?_
        rintro e w2 ⟨v, rfl, ⟨vs, hown, hin⟩, hb⟩
        rw [tab_len] at hown
        obtain ⟨g, cap, rfl⟩ : ∃ g cap, v = .slice (some ⟨g, 0, none⟩) 57 cap := by
          rcases hown.2 with ⟨_, h0⟩ | ⟨g, cap, _, h, _⟩
          · omega
          · exact ⟨g, cap, h⟩
        clear T
        go_wp2_with fail
        go_loop [40] (fun i => ∃ k : Nat, k ≤ 57 ∧ i = .int .i64 k ∧ Hid (NoneT (byParts a b) k)) (fun i => 57 - (intOf i).toNat)
        case atStart => exact ⟨0, Nat.zero_le _, rfl, fun j t hj => by omega⟩
        case round =>
          obtain ⟨k, hk, rfl, HN⟩ := hrel
          by_cases hlt : k < 57
          · obtain ⟨t, ht⟩ : ∃ t, tab[k]? = some t := ⟨_, List.getElem?_eq_getElem (by rw [tab_len]; exact hlt)⟩
            obtain ⟨x, hx, hI⟩ := hin k t ht
            have hl3 := tab_three t (List.mem_of_getElem? ht)
            have c0 := hown.cellAt k (by omega)
            rw [hx] at c0
            obtain ⟨x0, x1, x2, rfl⟩ : ∃ x0 x1 x2, t = [x0, x1, x2] := by
              match t, hl3 with
              | [x0, x1, x2], _ => exact ⟨x0, x1, x2, rfl⟩
            rcases hI.form with ⟨_, h0⟩ | ⟨h, cap', rfl, hcap, hcapm⟩
            · cases h0
            have d0 : w2.cell? ⟨h, 0, none⟩ = some (.int .i64 x0) := hI.cellAt 0 (by simp)
            have d1 : w2.cell? ⟨h, 1, none⟩ = some (.int .i64 x1) := hI.cellAt 1 (by simp)
            have d2 : w2.cell? ⟨h, 2, none⟩ = some (.int .i64 x2) := hI.cellAt 2 (by simp)
            simp only [List.length_cons, List.length_nil] at c0 hcap
            have HT : Hid _ := ht
            have hk8 : (k : Int) < 57 := by omega
            clear hin hown ht hx hI
            by_cases e : x1 = a ∧ x2 = b
            · have HF : Hid (tog a b = some x0) := by
                show _ = _
                rw [HS.out, findT_at HN.out HT.out (byParts_yes e.1 e.2)]; rfl
              have e1 : (x1 == a) = true := by simpa using e.1
              have e2 : (x2 == b) = true := by simpa using e.2
              clear e HN HT HS
              go_wp2
              go_ret2
              exact ⟨ret_t HF.out, hb⟩
            · have HN2 : Hid (NoneT (byParts a b) (k + 1)) := HN.out.succ HT.out (byParts_no e)
              clear HN HT HS
              by_cases e1 : x1 = a
              · have e2 : (x2 == b) = false := by simpa using fun h => e ⟨e1, h⟩
                have e1' : (x1 == a) = true := by simpa using e1
                clear e e1
                go_wp2
                exact ⟨⟨k + 1, by omega, by go_num, HN2⟩, by simp [intOf]; omega⟩
              · have e1' : (x1 == a) = false := by simpa using e1
                clear e e1
                go_wp2
                exact ⟨⟨k + 1, by omega, by go_num, HN2⟩, by simp [intOf]; omega⟩
          · have HF : Hid (tog a b = none) := by
              show _ = _
              rw [HS.out, findT_no HN.out (by omega)]; rfl
            clear HN HS hin hown
            go_wp2
            go_ret2
            exact ⟨ret_t0 HF.out, hb⟩
    · have B := fun w => l1In_no a 44032 55203 q w
      have HS : Hid _ := tog_tab (a := a) (b := b) (sylT_none (fun h => p ⟨h.1, h.2.1⟩) (fun h => q ⟨h.1.1, h.1.2.1⟩))
      clear p q
      go_enter Tryd.func31, Tryd.ntmps31
      go_wp2_with fail
      refine (A _).mono ?_
      rintro e w1 ⟨rfl, rfl⟩
      go_wp2_with fail
      refine (B _).mono ?_
      rintro e w1 ⟨rfl, rfl⟩
      clear A B
      go_wp2_with fail
      refine (T _).mono ?_
      rintro e w2 ⟨v, rfl, ⟨vs, hown, hin⟩, hb⟩
      rw [tab_len] at hown
      obtain ⟨g, cap, rfl⟩ : ∃ g cap, v = .slice (some ⟨g, 0, none⟩) 57 cap := by
        rcases hown.2 with ⟨_, h0⟩ | ⟨g, cap, _, h, _⟩
        · omega
        · exact ⟨g, cap, h⟩
      clear T
      go_wp2_with fail
      go_loop [40] (fun i => ∃ k : Nat, k ≤ 57 ∧ i = .int .i64 k ∧ Hid (NoneT (byParts a b) k)) (fun i => 57 - (intOf i).toNat)
      case atStart => exact ⟨0, Nat.zero_le _, rfl, fun j t hj => by omega⟩
      case round =>
        obtain ⟨k, hk, rfl, HN⟩ := hrel
        by_cases hlt : k < 57
        · obtain ⟨t, ht⟩ : ∃ t, tab[k]? = some t := ⟨_, List.getElem?_eq_getElem (by rw [tab_len]; exact hlt)⟩
          obtain ⟨x, hx, hI⟩ := hin k t ht
          have hl3 := tab_three t (List.mem_of_getElem? ht)
          have c0 := hown.cellAt k (by omega)
          rw [hx] at c0
          obtain ⟨x0, x1, x2, rfl⟩ : ∃ x0 x1 x2, t = [x0, x1, x2] := by
            match t, hl3 with
            | [x0, x1, x2], _ => exact ⟨x0, x1, x2, rfl⟩
          rcases hI.form with ⟨_, h0⟩ | ⟨h, cap', rfl, hcap, hcapm⟩
          · cases h0
          have d0 : w2.cell? ⟨h, 0, none⟩ = some (.int .i64 x0) := hI.cellAt 0 (by simp)
          have d1 : w2.cell? ⟨h, 1, none⟩ = some (.int .i64 x1) := hI.cellAt 1 (by simp)
          have d2 : w2.cell? ⟨h, 2, none⟩ = some (.int .i64 x2) := hI.cellAt 2 (by simp)
          simp only [List.length_cons, List.length_nil] at c0 hcap
          have HT : Hid _ := ht
          have hk8 : (k : Int) < 57 := by omega
          clear hin hown ht hx hI
          by_cases e : x1 = a ∧ x2 = b
          · have HF : Hid (tog a b = some x0) := by
              show _ = _
              rw [HS.out, findT_at HN.out HT.out (byParts_yes e.1 e.2)]; rfl
            have e1 : (x1 == a) = true := by simpa using e.1
            have e2 : (x2 == b) = true := by simpa using e.2
            clear e HN HT HS
            go_wp2
            go_ret2
            exact ⟨ret_t HF.out, hb⟩
          · have HN2 : Hid (NoneT (byParts a b) (k + 1)) := HN.out.succ HT.out (byParts_no e)
            clear HN HT HS
            by_cases e1 : x1 = a
            · have e2 : (x2 == b) = false := by simpa using fun h => e ⟨e1, h⟩
              have e1' : (x1 == a) = true := by simpa using e1
              clear e e1
              go_wp2
              exact ⟨⟨k + 1, by omega, by go_num, HN2⟩, by simp [intOf]; omega⟩
            · have e1' : (x1 == a) = false := by simpa using e1
              clear e e1
              go_wp2
              exact ⟨⟨k + 1, by omega, by go_num, HN2⟩, by simp [intOf]; omega⟩
        · have HF : Hid (tog a b = none) := by
            show _ = _
            rw [HS.out, findT_no HN.out (by omega)]; rfl
          clear HN HS hin hown
          go_wp2
          go_ret2
          exact ⟨ret_t0 HF.out, hb⟩

/-- Of runes that are not good nothing is put together, and they are in no table. -/
theorem tog_good {a b : Int} (h : goodB a = false ∨ goodB b = false) : tog a b = none := by
  cases ht : tog a b with
  | none => rfl
  | some x =>
    exfalso
    unfold tog at ht
    have hh : ∀ x, 0 ≤ x → x ≤ 55203 → goodB x = true := fun x h1 h2 => decide_eq_true (by omega)
    split at ht
    · rename_i c
      have h1 := hh a (by omega) (by omega)
      have h2 := hh b (by omega) (by omega)
      rw [h1, h2] at h; simp at h
    · split at ht
      · rename_i c
        have h1 := hh a (by omega) (by omega)
        have h2 := hh b (by omega) (by omega)
        rw [h1, h2] at h; simp at h
      · cases hf : tab.find? (fun t => at0 t 1 == a && at0 t 2 == b) with
        | none => rw [hf] at ht; cases ht
        | some t =>
          have hm := List.mem_of_find?_eq_some hf
          have hp := List.find?_some hf
          simp at hp
          have := parts_good t hm
          rw [hp.1, hp.2] at this
          rw [this.2.1, this.2.2] at h; simp at h

set_option maxRecDepth 100000 in
set_option maxHeartbeats 1000000 in
theorem specTogether_any (a b : Int) (w : World) : Calls Tryd.prog 15 #[.int .i64 a, .int .i64 b] w fun e w' => e = .returned (togRes (tog a b)) ∧ Below w.heap.size w w' := by
  cases ha : goodB a
  · have A := fun w => specGood_no a ha w
    have HT : Hid (tog a b = none) := tog_good (.inl ha)
    clear ha
    go_enter Tryd.func15, Tryd.ntmps15
    go_wp2_with fail
    refine (A _).mono ?_
    rintro e w1 ⟨rfl, rfl⟩
    go_wp2
    go_ret2
    exact ⟨ret_t0 HT.out, Below.refl _ _⟩
  · have A := fun w => specGood_yes a ha w
    cases hb : goodB b
    · have B := fun w => specGood_no b hb w
      have HT : Hid (tog a b = none) := tog_good (.inr hb)
      clear ha hb
      go_enter Tryd.func15, Tryd.ntmps15
      go_wp2_with fail
      refine (A _).mono ?_
      rintro e w1 ⟨rfl, rfl⟩
      go_wp2_with fail
      refine (B _).mono ?_
      rintro e w1 ⟨rfl, rfl⟩
      go_wp2
      go_ret2
      exact ⟨ret_t0 HT.out, Below.refl _ _⟩
    · have B := fun w => specGood_yes b hb w
      have C := fun w => specTog_any a b w
      clear ha hb
      go_enter Tryd.func15, Tryd.ntmps15
      go_wp2_with fail
      refine (A _).mono ?_
      rintro e w1 ⟨rfl, rfl⟩
      go_wp2_with fail
      refine (B _).mono ?_
      rintro e w1 ⟨rfl, rfl⟩
      go_wp2_with fail
      refine (C _).mono ?_
      rintro e w1 ⟨rfl, hb⟩
      simp only [togRes]
      go_wp2
      go_ret2
      exact ⟨rfl, hb⟩

set_option maxRecDepth 100000 in
set_option maxHeartbeats 1000000 in
theorem specApart_any (r : Int) (w : World) : Calls Tryd.prog 24 #[.int .i64 r] w fun e w' => ∃ v, e = .returned v ∧ Ints w' w.heap.size v (apartG r) ∧ Below w.heap.size w w' := by
  unfold apartG
  cases hg : goodB r
  · have P := fun w => specGood_no r hg w
    rw [if_neg (by simp)]
    clear hg
    go_enter Tryd.func24, Tryd.ntmps24
    go_wp2_with fail
    refine (P _).mono ?_
    rintro e w1 ⟨rfl, rfl⟩
    go_wp2
    go_ret
    exact ⟨_, rfl, ⟨rfl, .inl ⟨rfl, rfl⟩⟩, Below.refl _ _⟩
  · have P := fun w => specGood_yes r hg w
    have A := fun w => apart_any w r
    rw [if_pos rfl]
    clear hg
    go_enter Tryd.func24, Tryd.ntmps24
    go_wp2_with fail
    refine (P _).mono ?_
    rintro e w1 ⟨rfl, rfl⟩
    go_wp2_with fail
    refine (A _).mono ?_
    rintro e w2 ⟨v, rfl, hI, hb⟩
    go_wp2
    go_ret
    exact ⟨_, rfl, hI, hb⟩
end Go.Proofs.YtlhpkjhinikmmaaDoor
