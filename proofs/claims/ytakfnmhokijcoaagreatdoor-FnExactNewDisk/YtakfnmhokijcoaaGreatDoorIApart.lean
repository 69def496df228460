/- Contracts of the program's syllableApart, ApartOf, isOpenSyllable, syllableTogether and TogetherOf. -/
import Derived.Test.YtakfnmhokijcoaaGreatDoorIPair
import Derived.Test.YtakfnmhokijcoaaGreatDoorApart2
namespace Go.Proofs.YtakfnmhokijcoaaGreatDoor
open Go.RowKit

theorem lit_ints2 (w : World) (o : Obj) (zs : List Int) (n B : Nat) (hn : zs.length = n) (hz : n ≤ maxLen) (cs : Array Value) (hcs : cs = (zs.map (Value.int .i64)).toArray) (hB : B ≤ w.heap.size) : Ints ((w.alloc o).alloc (.cells cs 3)) B (.slice (some ⟨w.heap.size + 1, 0, none⟩) n n) zs := by
  subst hn
  exact ints_block zs hcs (heap_alloc2_new w o _) (by omega) hz

set_option maxRecDepth 100000 in
set_option maxHeartbeats 2000000 in
theorem sylApart_any (w : World) (r : Int) (h1 : 44032 ≤ r) (h2 : r ≤ 55203) :
    Calls Tryz.prog 97 #[.int .i64 (r - 44032)] w fun e w' => ∃ v, e = .returned v ∧ Ints w' w.heap.size v (apart r) ∧ Below w.heap.size w w' := by
  have ha := syl_apart h1 h2
  obtain ⟨s, hs⟩ : ∃ s, r - 44032 = s := ⟨_, rfl⟩
  have h0 : 0 ≤ s := by omega
  have h3 : s ≤ 11171 := by omega
  rw [hs] at ha ⊢
  by_cases c : 0 < s % 28
  · have HA : Hid (apart r = [4352 + s / 588, 4449 + s % 588 / 28, 4519 + s % 28]) := by show _ = _; rw [ha, if_pos c]; rfl
    have c2 : (s % 28 == 0) = false := by simp; omega
    clear ha hs
    go_enter Tryz.func97, Tryz.ntmps97
    go_wp2
    go_ret
    rw [HA.out]
    exact ⟨_, rfl, lit_ints w _ 3 rfl (by unfold maxLen; omega) _ rfl, (Below.refl _ _).alloc (Nat.le_refl _) _⟩
  · have HA : Hid (apart r = [4352 + s / 588, 4449 + s % 588 / 28]) := by show _ = _; rw [ha, if_neg c]; rfl
    have c2 : (s % 28 == 0) = true := by simp; omega
    clear ha hs
    go_enter Tryz.func97, Tryz.ntmps97
    go_wp2
    go_ret
    rw [HA.out]
    exact ⟨_, rfl, lit_ints w _ 2 rfl (by unfold maxLen; omega) _ rfl, (Below.refl _ _).alloc (Nat.le_refl _) _⟩

/-- What the program's ApartOf answers: nothing of what is no rune. -/
def apartG (r : Int) : List Int := if goodB r = true then apart r else []

set_option maxRecDepth 100000 in
set_option maxHeartbeats 2000000 in
theorem implApart_any (r : Int) (w : World) (hc : Held w 4 capF) (ho : Held w 5 othF) :
    Calls Tryz.prog 94 #[.int .i64 r] w fun e w' => ∃ v, e = .returned v ∧ Ints w' w.heap.size v (apartG r) ∧ Below w.heap.size w w' := by
  unfold apartG
  cases hg : goodB r
  · have P := fun w => implGood_no r hg w
    rw [if_neg (by simp)]
    clear hg
    go_enter Tryz.func94, Tryz.ntmps94
    go_wp2_with (go_at_call 93; refine (P _).mono ?_; rintro e w1 ⟨rfl, rfl⟩)
    go_ret
    exact ⟨_, rfl, ⟨rfl, .inl ⟨rfl, rfl⟩⟩, Below.refl _ _⟩
  · have P := fun w => implGood_yes r hg w
    rw [if_pos rfl]
    have hgr := goodB_true hg
    clear hg
    by_cases e1 : r = 8491
    · subst e1
      have ha : apart 8491 = [197] := by decide
      rw [ha]
      go_enter Tryz.func94, Tryz.ntmps94
      go_wp2_with (go_at_call 93; refine (P _).mono ?_; rintro e w1 ⟨rfl, rfl⟩)
      go_ret
      exact ⟨_, rfl, lit_ints _ [197] 1 rfl (by unfold maxLen; omega) _ rfl, (Below.refl _ _).alloc (Nat.le_refl _) _⟩
    · have e1' : (r == 8491) = false := by simpa using e1
      by_cases e2 : 44032 ≤ r ∧ r ≤ 55203
      · obtain ⟨s1, s2⟩ := e2
        have SA := fun w => sylApart_any w r s1 s2
        clear hc ho hgr e1
        go_enter Tryz.func94, Tryz.ntmps94
        go_wp2_with fail
        refine (P _).mono ?_
        rintro e w1 ⟨rfl, rfl⟩
        go_wp2_with fail
        refine (SA _).mono ?_
        rintro e w2 ⟨v, rfl, hI, hb⟩
        go_wp2
        go_ret
        exact ⟨_, rfl, hI, hb⟩
      · have PR := fun w hc ho => implPair_any r w hc ho
        have HA : Hid (apart r = match tabI.find? (fun t => at0 t 0 == r) with | some t => [at0 t 1, at0 t 2] | none => [r]) := by
          show _ = _
          rw [tabI_whole]; unfold apart; rw [if_neg e1, if_neg e2]; rfl
        have e3 : (decide (44032 ≤ r) && decide (r ≤ 55203)) = false := by
          cases h : (decide (44032 ≤ r) && decide (r ≤ 55203)) with
          | false => rfl
          | true => simp at h; exact absurd h e2
        generalize tabI.find? (fun t => at0 t 0 == r) = o at *
        have fin : ∀ {w1 : World}, Held w1 4 capF → Held w1 5 othF → Hid (Calls Tryz.prog 98 #[.int .i64 r] w1 fun e w' => e = .returned (pairRes o) ∧ Below w1.heap.size w1 w') := fun a b => PR _ a b
        clear PR e1 hgr
        by_cases q : 44032 ≤ r
        · have q2 : ¬ r ≤ 55203 := fun h => e2 ⟨q, h⟩
          clear e2 e3
          go_enter Tryz.func94, Tryz.ntmps94
          go_wp2_with fail
          refine (P _).mono ?_
          rintro e w1 ⟨rfl, rfl⟩
          go_wp2_with fail
          refine ((fin hc ho).out).mono ?_
          rintro e w2 ⟨rfl, hb⟩
          cases o with
          | none =>
            simp only [pairRes, pv, Option.getD, Option.isSome]
            go_wp2
            go_ret
            rw [HA.out]
            exact ⟨_, rfl, lit_ints2 _ _ [r] 1 _ rfl (by unfold maxLen; omega) _ rfl hb.size, ((hb.alloc hb.size _).alloc (hb.alloc hb.size _).size _)⟩
          | some t =>
            simp only [pairRes, pv, Option.getD, Option.isSome]
            go_wp2
            go_ret
            rw [HA.out]
            exact ⟨_, rfl, lit_ints2 _ _ [at0 t 1, at0 t 2] 2 _ rfl (by unfold maxLen; omega) _ rfl hb.size, ((hb.alloc hb.size _).alloc (hb.alloc hb.size _).size _)⟩
        · clear e2 e3
          go_enter Tryz.func94, Tryz.ntmps94
          go_wp2_with fail
          refine (P _).mono ?_
          rintro e w1 ⟨rfl, rfl⟩
          go_wp2_with fail
          refine ((fin hc ho).out).mono ?_
          rintro e w2 ⟨rfl, hb⟩
          cases o with
          | none =>
            simp only [pairRes, pv, Option.getD, Option.isSome]
            go_wp2
            go_ret
            rw [HA.out]
            exact ⟨_, rfl, lit_ints2 _ _ [r] 1 _ rfl (by unfold maxLen; omega) _ rfl hb.size, ((hb.alloc hb.size _).alloc (hb.alloc hb.size _).size _)⟩
          | some t =>
            simp only [pairRes, pv, Option.getD, Option.isSome]
            go_wp2
            go_ret
            rw [HA.out]
            exact ⟨_, rfl, lit_ints2 _ _ [at0 t 1, at0 t 2] 2 _ rfl (by unfold maxLen; omega) _ rfl hb.size, ((hb.alloc hb.size _).alloc (hb.alloc hb.size _).size _)⟩
end Go.Proofs.YtakfnmhokijcoaaGreatDoor
