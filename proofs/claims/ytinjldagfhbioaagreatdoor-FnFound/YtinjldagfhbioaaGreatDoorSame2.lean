/- Contract of the specification's l2Same. -/
import Derived.Test.YtinjldagfhbioaaGreatDoorClass
namespace Go.Proofs.YtinjldagfhbioaaGreatDoor
open Go.RowKit

def SameTo (a b : List Int) (k : Nat) : Prop := ∀ j, j < k → a[j]? = b[j]?

set_option maxRecDepth 100000 in
set_option maxHeartbeats 1000000 in
theorem same2_none (w : World) (a b : Option Addr) (c d : Nat) : Calls Tryz.prog 46 #[.slice a 0 c, .slice b 0 d] w fun e w' => e = .returned (.bool true) ∧ ∃ n, w' = w.drewN n := by
  go_enter Tryz.func46, Tryz.ntmps46
  go_wp2
  go_loopw [13] (fun i wr => i = .int .i64 0 ∧ wr = w) (fun _ _ => 0)
  case atStart => exact ⟨rfl, rfl⟩
  case round =>
    obtain ⟨rfl, rfl⟩ := hrel
    go_wp2
    go_ret
    exact ⟨rfl, 0, rfl⟩

set_option maxRecDepth 100000 in
set_option maxHeartbeats 1000000 in
theorem same2_len (w : World) (a b : Option Addr) (n m c d : Nat) (h : n ≠ m) : Calls Tryz.prog 46 #[.slice a n c, .slice b m d] w fun e w' => e = .returned (.bool false) ∧ ∃ n, w' = w.drewN n := by
  have h2 : ((n : Int) != (m : Int)) = true := by simp; omega
  go_enter Tryz.func46, Tryz.ntmps46
  go_wp2
  go_ret
  exact ⟨rfl, 0, rfl⟩

set_option maxRecDepth 100000 in
set_option maxHeartbeats 1000000 in
theorem same2_row (w : World) (g g' cap cap' n : Nat) (za zb : List Int) (ha : za.length = n) (hb : zb.length = n) (hz : n ≤ 1048576)
    (h1 : ∀ j, j < n → w.cell? ⟨g, j, none⟩ = some (.int .i64 (za[j]?.getD 0)))
    (h2 : ∀ j, j < n → w.cell? ⟨g', j, none⟩ = some (.int .i64 (zb[j]?.getD 0))) :
    Calls Tryz.prog 46 #[.slice (some ⟨g, 0, none⟩) n cap, .slice (some ⟨g', 0, none⟩) n cap'] w fun e w' => e = .returned (.bool (decide (za = zb))) ∧ ∃ n, w' = w.drewN n := by
  go_enter Tryz.func46, Tryz.ntmps46
  go_wp2
  go_loopw [13] (fun i wr => ∃ k nq : Nat, k ≤ n ∧ i = .int .i64 k ∧ wr = w.drewN nq ∧ Hid (SameTo za zb k)) (fun i _ => n - (intOf i).toNat)
  case atStart => exact ⟨0, 0, Nat.zero_le _, rfl, rfl, fun j hj => by omega⟩
  case round =>
    obtain ⟨k, nq, hk, rfl, rfl, HS⟩ := hrel
    by_cases hlt : k < n
    · obtain ⟨x, hx⟩ : ∃ x, za[k]? = some x := ⟨_, List.getElem?_eq_getElem (by omega)⟩
      obtain ⟨y, hy⟩ : ∃ y, zb[k]? = some y := ⟨_, List.getElem?_eq_getElem (by omega)⟩
      have g1 := h1 k hlt
      have g2 := h2 k hlt
      rw [hx] at g1
      rw [hy] at g2
      have e1 : w.cell? ⟨g, k, none⟩ = some (.int .i64 x) := g1
      have e2 : w.cell? ⟨g', k, none⟩ = some (.int .i64 y) := g2
      have hz2 : (k : Int) < (n : Int) := by omega
      have HX : Hid _ := hx
      have HY : Hid _ := hy
      have HA : Hid _ := ha
      have HB : Hid _ := hb
      clear h1 h2 g1 g2 hx hy ha hb
      by_cases e : x = y
      · subst e
        have HS2 : Hid (SameTo za zb (k + 1)) := by
          intro j hj
          by_cases e : j = k
          · subst e; rw [HX.out, HY.out]
          · exact HS.out j (by omega)
        go_wp2
        go_quiet (fail)
        go_wp2
        exact ⟨⟨k + 1, _, by omega, by go_num, rfl, HS2⟩, by simp [intOf]; omega⟩
      · have hne : (x != y) = true := by simpa using e
        have HN : Hid (false = decide (za = zb)) := by
          refine (decide_eq_false fun h => e ?_).symm
          have := HX.out
          rw [h, HY.out] at this
          exact (Option.some.inj this).symm
        clear e
        go_wp2
        go_quiet (fail)
        go_wp2
        go_ret
        exact ⟨ret_b HN.out, _, World.drewN_drewN _ _ _⟩
    · have HN : Hid (true = decide (za = zb)) := by
        refine (decide_eq_true ?_).symm
        apply List.ext_getElem?
        intro j
        by_cases hj : j < k
        · exact HS.out j hj
        · rw [List.getElem?_eq_none (by omega), List.getElem?_eq_none (by omega)]
      have HA : Hid _ := ha
      have HB : Hid _ := hb
      clear h1 h2 ha hb
      go_wp2
      go_ret
      exact ⟨ret_b HN.out, _, rfl⟩

theorem same2_any {w : World} {B B' : Nat} {a b : Value} {za zb : List Int} (hza : za.length ≤ 1048576) (hzb : zb.length ≤ 1048576) (ha : Ints w B a za) (hb : Ints w B' b zb) :
    Calls Tryz.prog 46 #[a, b] w fun e w' => e = .returned (.bool (decide (za = zb))) ∧ ∃ n, w' = w.drewN n := by
  by_cases h : za.length = zb.length
  · rcases ha.form with ⟨rfl, rfl⟩ | ⟨g, cap, rfl, h1, h2⟩
    · have e : zb = [] := List.eq_nil_of_length_eq_zero (by simpa using h.symm)
      subst e
      rcases hb.form with ⟨rfl, _⟩ | ⟨g', cap', rfl, _, _⟩
      · exact same2_none w _ _ _ _
      · exact same2_none w _ _ _ _
    · rcases hb.form with ⟨rfl, rfl⟩ | ⟨g', cap', rfl, _, _⟩
      · have e : za = [] := List.eq_nil_of_length_eq_zero (by simpa using h)
        subst e
        exact same2_none w _ _ _ _
      · rw [← h]
        exact same2_row w g g' cap cap' za.length za zb rfl h.symm hza (fun j hj => ha.cell j hj) (fun j hj => hb.cell j (by omega))
  · have e : decide (za = zb) = false := decide_eq_false (fun e => h (by rw [e]))
    rw [e]
    rcases ha.form with ⟨rfl, rfl⟩ | ⟨g, cap, rfl, h1, h2⟩
    · rcases hb.form with ⟨rfl, rfl⟩ | ⟨g', cap', rfl, _, _⟩
      · exact absurd rfl h
      · exact same2_len w _ _ _ _ _ _ (by simpa using h)
    · rcases hb.form with ⟨rfl, rfl⟩ | ⟨g', cap', rfl, _, _⟩
      · exact same2_len w _ _ _ _ _ _ (by simpa using h)
      · exact same2_len w _ _ _ _ _ _ h
end Go.Proofs.YtinjldagfhbioaaGreatDoor
