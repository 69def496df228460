/- Contracts of the laws' markIntS and heldIntS. -/
import Derived.Test.YtanfebccenfffagDoorEqI
namespace Go.Proofs.YtanfebccenfffagDoor
open Go.RowKit

/-- The row behind k marks. -/
def marked (zs : List Int) : Nat → List Int
  | 0 => zs
  | k + 1 => (marked zs k).set k ((k : Int) + 1)

theorem marked_length (zs : List Int) (k : Nat) : (marked zs k).length = zs.length := by
  induction k with
  | zero => rfl
  | succ k ih => simp [marked, ih]

theorem marked_at (zs : List Int) (k j : Nat) (hj : j < k) (hl : j < zs.length) : (marked zs k)[j]?.getD 0 = (j : Int) + 1 := by
  induction k with
  | zero => omega
  | succ k ih =>
    simp only [marked, List.getElem?_set, marked_length]
    by_cases e : k = j
    · subst e; simp [hl]
    · rw [if_neg e]; exact ih (by omega)

theorem marked_map (zs : List Int) (k : Nat) : ((marked zs k).map (Value.int .i64)).set k (.int .i64 ((k : Int) + 1)) = (marked zs (k + 1)).map (Value.int .i64) := by
  simp [marked, List.map_set]

set_option maxRecDepth 100000 in
set_option maxHeartbeats 1000000 in
theorem mark_none (w : World) (a : Option Addr) (c : Nat) : Calls Tryd.prog 14 #[.slice a 0 c, .int .i64 1] w fun e w' => e = .returned (.int .i64 1) ∧ w' = w := by
  go_enter Tryd.func14, Tryd.ntmps14
  go_wp2
  go_loop [1, 5] (fun k i => k = .int .i64 1 ∧ i = .int .i64 0) (fun _ _ => 0)
  case atStart => exact ⟨rfl, rfl⟩
  case round =>
    obtain ⟨rfl, rfl⟩ := hrel
    go_wp2
    go_ret
    exact ⟨rfl, rfl⟩

def MarkRel (w : World) (B g cap : Nat) (zs : List Int) (m i : Value) (wr : World) : Prop :=
  ∃ k : Nat, k ≤ zs.length ∧ i = .int .i64 k ∧ m = .int .i64 ((k : Int) + 1) ∧ wr.ownsRow B 3 1 (.slice (some ⟨g, 0, none⟩) zs.length cap) zs.length ((marked zs k).map (Value.int .i64)) ∧ w.grownBy wr (some g)

set_option maxRecDepth 100000 in
set_option maxHeartbeats 1000000 in
theorem mark_row (w : World) (B g cap : Nat) (zs : List Int) (hz : zs.length ≤ 1073741824) (hI : w.ownsRow B 3 1 (.slice (some ⟨g, 0, none⟩) zs.length cap) zs.length (zs.map (Value.int .i64))) :
    Calls Tryd.prog 14 #[.slice (some ⟨g, 0, none⟩) zs.length cap, .int .i64 1] w fun e w' => e = .returned (.int .i64 ((zs.length : Int) + 1)) ∧ w'.ownsRow B 3 1 (.slice (some ⟨g, 0, none⟩) zs.length cap) zs.length ((marked zs zs.length).map (Value.int .i64)) ∧ w.grownBy w' (some g) := by
  go_enter Tryd.func14, Tryd.ntmps14
  go_wp2
  go_loopw [1, 5] (fun m i wr => MarkRel w B g cap zs m i wr) (fun _ i _ => zs.length - (intOf i).toNat)
  case atStart => exact ⟨0, Nat.zero_le _, rfl, rfl, hI, World.grownBy.refl _ _⟩
  case round =>
    clear hI
    obtain ⟨k, hk, rfl, rfl, hown, hg⟩ := hrel
    by_cases hlt : k < zs.length
    · have c1 := hown.cellAt k (by omega)
      have hm : ((marked zs k).map (Value.int .i64))[k]? = some (.int .i64 ((marked zs k)[k]?.getD 0)) := by
        have := marked_length zs k
        simp [this, hlt]
      rw [hm] at c1
      have c2 := hown.frozenAt k
      have hst := hown.stored k (.int .i64 ((k : Int) + 1))
      rw [marked_map] at hst
      have HST : Hid _ := hst
      clear hst hm
      go_wp2
      go_roundw
      case rel => exact ⟨k + 1, by omega, by go_num, by go_num, HST.out.1, hg.trans HST.out.2⟩
      case measure => simp [intOf]; omega
    · have hkz : k = zs.length := by omega
      subst hkz
      go_wp2
      go_ret
      exact ⟨rfl, hown, hg⟩

theorem mark_any {w : World} {B : Nat} {v : Value} {zs : List Int} (hz : zs.length ≤ 1073741824) (hI : Ints w B v zs) :
    Calls Tryd.prog 14 #[v, .int .i64 1] w fun e w' => e = .returned (.int .i64 ((zs.length : Int) + 1)) ∧ Ints w' B v (marked zs zs.length) ∧ w.grownBy w' v.ownBlock := by
  rcases hI.form with ⟨rfl, rfl⟩ | ⟨g, cap, rfl, h1, h2⟩
  · refine (mark_none w _ _).mono ?_
    rintro e w' ⟨rfl, rfl⟩
    exact ⟨rfl, hI, World.grownBy.refl _ _⟩
  · refine (mark_row w B g cap zs hz hI).mono ?_
    rintro e w' ⟨rfl, h3, h4⟩
    refine ⟨rfl, ?_, h4⟩
    unfold Ints
    rw [marked_length]
    exact h3

set_option maxRecDepth 100000 in
set_option maxHeartbeats 1000000 in
theorem held_none (w : World) (a : Option Addr) (c : Nat) : Calls Tryd.prog 15 #[.slice a 0 c, .int .i64 1] w fun e w' => e = .returned (.int .i64 1) ∧ w' = w := by
  go_enter Tryd.func15, Tryd.ntmps15
  go_wp2
  go_loop [1, 5] (fun k i => k = .int .i64 1 ∧ i = .int .i64 0) (fun _ _ => 0)
  case atStart => exact ⟨rfl, rfl⟩
  case round =>
    obtain ⟨rfl, rfl⟩ := hrel
    go_wp2
    go_ret
    exact ⟨rfl, rfl⟩

set_option maxRecDepth 100000 in
set_option maxHeartbeats 1000000 in
theorem held_row (w : World) (g cap n : Nat) (hz : n ≤ 1073741824) (h1 : ∀ j, j < n → w.cell? ⟨g, j, none⟩ = some (.int .i64 ((j : Int) + 1))) :
    Calls Tryd.prog 15 #[.slice (some ⟨g, 0, none⟩) n cap, .int .i64 1] w fun e w' => e = .returned (.int .i64 ((n : Int) + 1)) ∧ w' = w := by
  go_enter Tryd.func15, Tryd.ntmps15
  go_wp2
  go_loop [1, 5] (fun m i => ∃ k : Nat, k ≤ n ∧ i = .int .i64 k ∧ m = .int .i64 ((k : Int) + 1)) (fun _ i => n - (intOf i).toNat)
  case atStart => exact ⟨0, Nat.zero_le _, rfl, rfl⟩
  case round =>
    obtain ⟨k, hk, rfl, rfl⟩ := hrel
    by_cases hlt : k < n
    · have g1 := h1 k hlt
      clear h1
      go_wp2
      go_round
      case rel => exact ⟨k + 1, by omega, by go_num, by go_num⟩
      case measure => simp [intOf]; omega
    · have hkz : k = n := by omega
      subst hkz
      go_wp2
      go_ret
      exact ⟨rfl, rfl⟩

theorem held_any {w : World} {B : Nat} {v : Value} {zs : List Int} (hz : zs.length ≤ 1073741824) (hI : Ints w B v (marked zs zs.length)) :
    Calls Tryd.prog 15 #[v, .int .i64 1] w fun e w' => e = .returned (.int .i64 ((zs.length : Int) + 1)) ∧ w' = w := by
  have hl := marked_length zs zs.length
  rcases hI.form with ⟨rfl, h⟩ | ⟨g, cap, rfl, h1, h2⟩
  · rw [h] at hl
    have : zs.length = 0 := by simpa using hl.symm
    rw [this]
    exact held_none w _ _
  · have hc := fun j hj => hI.cell j hj
    rw [hl]
    exact held_row w g cap zs.length hz (fun j hj => by rw [hc j (by omega), marked_at zs zs.length j hj hj])
end Go.Proofs.YtanfebccenfffagDoor
