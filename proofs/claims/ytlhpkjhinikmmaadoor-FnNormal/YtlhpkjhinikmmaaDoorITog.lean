/- Contracts of the program's isOpenSyllable, syllableTogether and TogetherOf. -/
import Derived.Test.YtlhpkjhinikmmaaDoorIPairT
namespace Go.Proofs.YtlhpkjhinikmmaaDoor
open Go.RowKit

def openS (r : Int) : Prop := 44032 ≤ r ∧ r ≤ 55203 ∧ (r - 44032) % 28 = 0

set_option maxRecDepth 100000 in
set_option maxHeartbeats 1000000 in
theorem open_yes (w : World) (r : Int) (h : openS r) : Calls Tryd.prog 44 #[.int .i64 r] w fun e w' => e = .returned (.bool true) ∧ w' = w := by
  obtain ⟨h1, h2, h3⟩ := h
  have h4 : ((r - 44032) % 28 == 0) = true := by simpa using h3
  clear h3
  go_enter Tryd.func44, Tryd.ntmps44
  go_wp2
  go_ret
  exact ⟨rfl, rfl⟩

set_option maxRecDepth 100000 in
set_option maxHeartbeats 1000000 in
theorem open_no (w : World) (r : Int) (h : ¬ openS r) : Calls Tryd.prog 44 #[.int .i64 r] w fun e w' => e = .returned (.bool false) ∧ w' = w := by
  by_cases h1 : 44032 ≤ r
  · by_cases h2 : r ≤ 55203
    · have h4 : ((r - 44032) % 28 == 0) = false := by simpa using fun h3 => h ⟨h1, h2, h3⟩
      clear h
      go_enter Tryd.func44, Tryd.ntmps44
      go_wp2
      go_ret
      exact ⟨rfl, rfl⟩
    · clear h
      have h2' : decide (r ≤ 55203) = false := by simpa using h2
      clear h2
      go_enter Tryd.func44, Tryd.ntmps44
      go_wp2
      go_ret
      exact ⟨rfl, rfl⟩
  · clear h
    have h1' : decide (44032 ≤ r) = false := by simpa using h1
    clear h1
    go_enter Tryd.func44, Tryd.ntmps44
    go_wp2
    go_ret
    exact ⟨rfl, rfl⟩

def sylT (a b : Int) : Option Int :=
  if 4352 ≤ a ∧ a ≤ 4370 ∧ 4449 ≤ b ∧ b ≤ 4469 then some (44032 + (a - 4352) * 588 + (b - 4449) * 28)
  else if (44032 ≤ a ∧ a ≤ 55203) ∧ (a - 44032) % 28 = 0 ∧ 4520 ≤ b ∧ b ≤ 4546 then some (a + b - 4519)
  else none

theorem tog_eq (a b : Int) : tog a b = match sylT a b with | some x => some x | none => (tabI.find? (byParts a b)).map (fun t => at0 t 0) := by
  unfold tog sylT
  split
  · rfl
  · split
    · rfl
    · rw [show byParts a b = fun t => at0 t 1 == a && at0 t 2 == b from rfl, tabI_parts]

theorem sylT_none {a b : Int} (h1 : ¬ (4352 ≤ a ∧ a ≤ 4370 ∧ 4449 ≤ b ∧ b ≤ 4469)) (h2 : ¬ (openS a ∧ 4520 ≤ b ∧ b ≤ 4546)) : sylT a b = none := by
  unfold sylT
  rw [if_neg h1, if_neg (fun h => h2 ⟨⟨h.1.1, h.1.2, h.2.1⟩, h.2.2⟩)]

set_option maxRecDepth 100000 in
set_option maxHeartbeats 2000000 in
theorem sylTog_any (a b : Int) (w : World) : Calls Tryd.prog 28 #[.int .i64 a, .int .i64 b] w fun e w' => e = .returned (togRes (sylT a b)) ∧ w' = w := by
  have Y := fun w h => open_yes w a h
  have N := fun w h => open_no w a h
  by_cases p1 : 4352 ≤ a
  · by_cases p2 : a ≤ 4370
    · have hno : ¬ openS a := fun h => by have := h.1; omega
      have N' := fun w => N w hno
      by_cases p3 : 4449 ≤ b
      · by_cases p4 : b ≤ 4469
        · have HT : Hid (sylT a b = some (44032 + (a - 4352) * 588 + (b - 4449) * 28)) := by show _ = _; unfold sylT; rw [if_pos ⟨p1, p2, p3, p4⟩]
          clear Y N N' hno
          go_enter Tryd.func28, Tryd.ntmps28
          go_wp2
          go_ret2
          exact ⟨ret_t HT.out, rfl⟩
        · have HT : Hid (sylT a b = none) := sylT_none (fun h => p4 h.2.2.2) (fun h => hno h.1)
          have p4' : decide (b ≤ 4469) = false := by simpa using p4
          clear Y N hno p4
          go_enter Tryd.func28, Tryd.ntmps28
          go_wp2_with (go_at_call 44; refine (N' _).mono ?_; rintro e w1 ⟨rfl, rfl⟩)
          go_ret2
          exact ⟨ret_t0 HT.out, rfl⟩
      · have HT : Hid (sylT a b = none) := sylT_none (fun h => p3 h.2.2.1) (fun h => hno h.1)
        have p3' : decide (4449 ≤ b) = false := by simpa using p3
        clear Y N hno p3
        go_enter Tryd.func28, Tryd.ntmps28
        go_wp2_with (go_at_call 44; refine (N' _).mono ?_; rintro e w1 ⟨rfl, rfl⟩)
        go_ret2
        exact ⟨ret_t0 HT.out, rfl⟩
    · have p2' : decide (a ≤ 4370) = false := by simpa using p2
      by_cases q : openS a
      · have Y' := fun w => Y w q
        have qr : 44032 ≤ a ∧ a ≤ 55203 := ⟨q.1, q.2.1⟩
        obtain ⟨qr1, qr2⟩ := qr
        by_cases q1 : 4519 < b
        · by_cases q2 : b ≤ 4546
          · have HT : Hid (sylT a b = some (a + b - 4519)) := by
              show _ = _
              unfold sylT; rw [if_neg (fun h => p2 h.2.1), if_pos ⟨⟨q.1, q.2.1⟩, q.2.2, by omega, q2⟩]
            clear Y N q p2
            go_enter Tryd.func28, Tryd.ntmps28
            go_wp2_with (go_at_call 44; refine (Y' _).mono ?_; rintro e w1 ⟨rfl, rfl⟩)
            go_ret2
            exact ⟨ret_t HT.out, rfl⟩
          · have HT : Hid (sylT a b = none) := sylT_none (fun h => p2 h.2.1) (fun h => q2 h.2.2)
            have q2' : decide (b ≤ 4546) = false := by simpa using q2
            clear Y N q p2 q2
            go_enter Tryd.func28, Tryd.ntmps28
            go_wp2_with (go_at_call 44; refine (Y' _).mono ?_; rintro e w1 ⟨rfl, rfl⟩)
            go_ret2
            exact ⟨ret_t0 HT.out, rfl⟩
        · have HT : Hid (sylT a b = none) := sylT_none (fun h => p2 h.2.1) (fun h => by have := h.2.1; omega)
          have q1' : decide (4519 < b) = false := by simpa using q1
          clear Y N q p2 q1
          go_enter Tryd.func28, Tryd.ntmps28
          go_wp2_with (go_at_call 44; refine (Y' _).mono ?_; rintro e w1 ⟨rfl, rfl⟩)
          go_ret2
          exact ⟨ret_t0 HT.out, rfl⟩
      · have N' := fun w => N w q
        have HT : Hid (sylT a b = none) := sylT_none (fun h => p2 h.2.1) (fun h => q h.1)
        clear Y N q p2
        go_enter Tryd.func28, Tryd.ntmps28
        go_wp2_with (go_at_call 44; refine (N' _).mono ?_; rintro e w1 ⟨rfl, rfl⟩)
        go_ret2
        exact ⟨ret_t0 HT.out, rfl⟩
  · have hno : ¬ openS a := fun h => by have := h.1; omega
    have N' := fun w => N w hno
    have HT : Hid (sylT a b = none) := sylT_none (fun h => p1 h.1) (fun h => hno h.1)
    have p1' : decide (4352 ≤ a) = false := by simpa using p1
    clear Y N hno p1
    go_enter Tryd.func28, Tryd.ntmps28
    go_wp2_with (go_at_call 44; refine (N' _).mono ?_; rintro e w1 ⟨rfl, rfl⟩)
    go_ret2
    exact ⟨ret_t0 HT.out, rfl⟩

set_option maxRecDepth 100000 in
set_option maxHeartbeats 1000000 in
theorem implTogether_any (a b : Int) (w : World) (hc : Held w 0 capF) (ho : Held w 1 othF) :
    Calls Tryd.prog 14 #[.int .i64 a, .int .i64 b] w fun e w' => e = .returned (togRes (tog a b)) ∧ Below w.heap.size w w' := by
  have ST := fun w => sylTog_any a b w
  have TT := implTog_any a b w hc ho
  have HE : Hid _ := tog_eq a b
  clear hc ho
  generalize (tabI.find? (byParts a b)).map (fun t => at0 t 0) = o at *
  generalize sylT a b = s at *
  go_enter Tryd.func14, Tryd.ntmps14
  go_wp2_with fail
  refine (ST _).mono ?_
  rintro e w1 ⟨rfl, rfl⟩
  cases s with
  | some x =>
    have HE2 : Hid (tog a b = some x) := HE.out
    clear HE TT
    simp only [togRes, Option.getD, Option.isSome]
    go_wp2
    go_ret2
    exact ⟨ret_t HE2.out, Below.refl _ _⟩
  | none =>
    have HE2 : Hid (tog a b = o) := HE.out
    clear HE
    simp only [togRes, Option.getD, Option.isSome]
    go_wp2_with fail
    refine TT.mono ?_
    rintro e w2 ⟨rfl, hb⟩
    simp only [togRes]
    go_wp2
    go_ret2
    rw [HE2.out]
    exact ⟨rfl, hb⟩
end Go.Proofs.YtlhpkjhinikmmaaDoor
