/- Contract of the laws' heldStringS. -/
import Derived.Test.YtecgkekafbimaaaMarkT
import Derived.Deep.RegionHeld
namespace Go.Proofs.Ytecgkekafbimaaa
open Go.RowKit

set_option maxRecDepth 100000 in
set_option maxHeartbeats 1000000 in
theorem heldT_none (w : World) (a : Option Addr) (c : Nat) (m : Int) : Calls Try.prog 18 #[.slice a 0 c, .int .i64 m] w fun e w' => e = .returned (.int .i64 m) ∧ Below w.heap.size w w' := by
  go_enter Try.func18, Try.ntmps18
  go_wp2
  go_loop [1, 5] (fun k i => k = .int .i64 m ∧ i = .int .i64 0) (fun _ _ => 0)
  case atStart => exact ⟨rfl, rfl⟩
  case round =>
    obtain ⟨rfl, rfl⟩ := hrel
    go_wp2
    go_ret
    exact ⟨rfl, Below.refl _ _⟩

theorem keep1 {w0 w1 w2 : World} {g k : Nat} {x : Value} (hg : g < w0.heap.size) (hb : Below w1.heap.size w1 w2) (h : w1.cell? ⟨g, k, none⟩ = some x ∧ Below w0.heap.size w0 w1) : w2.cell? ⟨g, k, none⟩ = some x ∧ Below w0.heap.size w0 w2 :=
  ⟨by rw [hb.cell (Nat.lt_of_lt_of_le hg h.2.size)]; exact h.1, h.2.trans (hb.mono h.2.size)⟩

set_option maxRecDepth 100000 in
set_option maxHeartbeats 2000000 in
theorem heldT_row (w : World) (B g cap n m : Nat) (hm0 : 0 < m) (hm1 : m ≤ 1073741824) (hz : n ≤ 1048576) (hI : Strs w B (.slice (some ⟨g, 0, none⟩) (seqT m n).length cap) (seqT m n)) :
    Calls Try.prog 18 #[.slice (some ⟨g, 0, none⟩) n cap, .int .i64 (m : Int)] w fun e w' => e = .returned (.int .i64 ((m + n : Nat) : Int)) ∧ Below w.heap.size w w' := by
  have hg := (World.ownsRow.lt hI g rfl).2
  go_enter Try.func18, Try.ntmps18
  go_wp2
  go_loopw [1, 5] (fun mv i wr => ∃ k : Nat, k ≤ n ∧ i = .int .i64 k ∧ mv = .int .i64 ((m + k : Nat) : Int) ∧ Below w.heap.size w wr) (fun _ i _ => n - (intOf i).toNat)
  case atStart => exact ⟨0, Nat.zero_le _, rfl, by simp, Below.refl _ _⟩
  case round =>
    obtain ⟨k, hk, rfl, rfl, hb⟩ := hrel
    by_cases hlt : k < n
    · have hk8 : (k : Int) < (n : Int) := by omega
      have c0 := hI.cell k _ (seqT_at m n k hlt)
      obtain ⟨M, hM⟩ : ∃ M, M = m + k := ⟨_, rfl⟩
      rw [← hM] at c0
      rw [← hM]
      have MT := fun w => markText_pos M w (by omega) (by omega)
      have hS0 : w.cell? ⟨g, k, none⟩ = some (.string (mtx M)) ∧ Below w.heap.size w w := ⟨c0, Below.refl _ _⟩
      have hS := keep1 hg hb hS0
      have hS2 := keep1 hg ((Below.refl wr.heap.size wr).drew) hS
      have K := fun (u1 u2 : World) (hb : Below u1.heap.size u1 u2) (hu : u1.cell? ⟨g, k, none⟩ = some (.string (mtx M)) ∧ Below w.heap.size w u1) => keep1 hg hb hu
      have HM : Hid _ := hM
      have hMb : M ≤ 2000000000 := by omega
      clear hM hI c0 hS0
      go_wp2_with fail
      go_region_held (fun u => u.cell? ⟨g, k, none⟩ = some (.string (mtx M)) ∧ Below w.heap.size w u)
        (first | exact hS2 | exact K _ _ (by assumption) (by assumption))
        (first | (go_at_call 27; refine (MT _).mono ?_; rintro e w' ⟨rfl, hbw⟩))
      all_goals
        have hE := (show w'.cell? ⟨g, k, none⟩ = _ ∧ Below w.heap.size w w' by assumption).2
        clear hS hS2 K MT
        go_wp2
        exact ⟨⟨k + 1, by omega, by go_num, by rw [show m + (k + 1) = M + 1 by have := HM.out; omega]; go_num, hE⟩, by simp [intOf]; omega⟩
    · have hkz : k = n := by omega
      subst hkz
      go_wp2
      go_ret
      exact ⟨rfl, hb⟩

theorem heldT_any {w : World} {B : Nat} {v : Value} {n m : Nat} (hm0 : 0 < m) (hm1 : m ≤ 1073741824) (hz : n ≤ 1048576) (hI : Strs w B v (seqT m n)) :
    Calls Try.prog 18 #[v, .int .i64 (m : Int)] w fun e w' => e = .returned (.int .i64 ((m + n : Nat) : Int)) ∧ Below w.heap.size w w' := by
  have hl := seqT_len m n
  rcases hI.form with ⟨rfl, h⟩ | ⟨g, cap, rfl, _, _⟩
  · rw [h] at hl
    have : n = 0 := by simpa using hl.symm
    subst this
    exact heldT_none w none 0 m
  · have := heldT_row w B g cap n m hm0 hm1 hz hI
    rw [hl]
    exact this
end Go.Proofs.Ytecgkekafbimaaa
