/- Contract of the laws' heldRowS. -/
import Derived.Test.YtecgkekafbimaaaMarkRw
import Derived.Deep.RegionHeld
namespace Go.Proofs.Ytecgkekafbimaaa
open Go.RowKit

set_option maxRecDepth 100000 in
set_option maxHeartbeats 1000000 in
theorem heldR_none (w : World) (a : Option Addr) (c : Nat) (m : Int) : Calls Try.prog 28 #[.slice a 0 c, .int .i64 m] w fun e w' => e = .returned (.int .i64 m) ∧ Below w.heap.size w w' := by
  go_enter Try.func28, Try.ntmps28
  go_wp2
  go_loop [1, 5] (fun k i => k = .int .i64 m ∧ i = .int .i64 0) (fun _ _ => 0)
  case atStart => exact ⟨rfl, rfl⟩
  case round =>
    obtain ⟨rfl, rfl⟩ := hrel
    go_wp2
    go_ret
    exact ⟨rfl, Below.refl _ _⟩

theorem keepH {w0 w1 w2 : World} {g k : Nat} {x y z : Value} (hg : g < w0.heap.size) (hb : Below w1.heap.size w1 w2) (h : w1.cell? ⟨g, k * 3, none⟩ = some x ∧ w1.cell? ⟨g, k * 3 + 1, none⟩ = some y ∧ w1.cell? ⟨g, k * 3 + 2, none⟩ = some z ∧ Below w0.heap.size w0 w1) :
    w2.cell? ⟨g, k * 3, none⟩ = some x ∧ w2.cell? ⟨g, k * 3 + 1, none⟩ = some y ∧ w2.cell? ⟨g, k * 3 + 2, none⟩ = some z ∧ Below w0.heap.size w0 w2 := by
  have hl := Nat.lt_of_lt_of_le hg h.2.2.2.size
  exact ⟨by rw [hb.cell hl]; exact h.1, by rw [hb.cell hl]; exact h.2.1, by rw [hb.cell hl]; exact h.2.2.1, h.2.2.2.trans (hb.mono h.2.2.2.size)⟩

set_option maxRecDepth 100000 in
set_option maxHeartbeats 4000000 in
theorem heldR_row (w : World) (B g cap n m : Nat) (hm0 : 0 < m) (hm1 : m ≤ 1073741824) (hz : n ≤ 1048576) (hI : Rws w B (.slice (some ⟨g, 0, none⟩) (seqR m n).length cap) (seqR m n)) :
    Calls Try.prog 28 #[.slice (some ⟨g, 0, none⟩) n cap, .int .i64 (m : Int)] w fun e w' => e = .returned (.int .i64 ((m + 3 * n : Nat) : Int)) ∧ Below w.heap.size w w' := by
  have hg := (World.ownsRow.lt hI g rfl).2
  go_enter Try.func28, Try.ntmps28
  go_wp2
  go_loopw [1, 5] (fun mv i wr => ∃ k : Nat, k ≤ n ∧ i = .int .i64 k ∧ mv = .int .i64 ((m + 3 * k : Nat) : Int) ∧ Below w.heap.size w wr) (fun _ i _ => n - (intOf i).toNat)
  case atStart => exact ⟨0, Nat.zero_le _, rfl, by simp, Below.refl _ _⟩
  case round =>
    obtain ⟨k, hk, rfl, rfl, hb⟩ := hrel
    by_cases hlt : k < n
    · have hk8 : (k : Int) < (n : Int) := by omega
      obtain ⟨c0, c1, c2⟩ := hI.cells k _ (seqR_at m n k hlt)
      unfold mrk at c0 c1 c2
      simp only at c0 c1 c2
      obtain ⟨M, hM⟩ : ∃ M, M = m + 3 * k := ⟨_, rfl⟩
      rw [← hM] at c0 c1 c2 ⊢
      have M0 : 0 < M := by omega
      have M1 : M ≤ 1099511000000 := by omega
      have MA := fun w => markText_int M (M : Int) rfl (by omega) (by omega) w
      have MB := fun w => markText_int (M + 1) ((M : Int) + 1) (by omega) (by omega) (by omega) w
      have MC := fun w => markText_int (M + 2) ((M : Int) + 1 + 1) (by omega) (by omega) (by omega) w
      have hS := keepH (k := k) hg hb ⟨c0, c1, c2, Below.refl _ _⟩
      have hS2 := keepH hg ((Below.refl wr.heap.size wr).drew) hS
      have K := fun (u1 u2 : World) (hb : Below u1.heap.size u1 u2) (hu : u1.cell? ⟨g, k * 3, none⟩ = some (.string (mtx M)) ∧ u1.cell? ⟨g, k * 3 + 1, none⟩ = some (.string (mtx (M + 1))) ∧ u1.cell? ⟨g, k * 3 + 2, none⟩ = some (.string (mtx (M + 2))) ∧ Below w.heap.size w u1) => keepH hg hb hu
      have HM : Hid _ := hM
      generalize mtx M = xa at *
      generalize mtx (M + 1) = xb at *
      generalize mtx (M + 2) = xc at *
      clear hM hI c0 c1 c2 hb
      go_wp2_with fail
      go_region_held (fun u => u.cell? ⟨g, k * 3, none⟩ = some (.string xa) ∧ u.cell? ⟨g, k * 3 + 1, none⟩ = some (.string xb) ∧ u.cell? ⟨g, k * 3 + 2, none⟩ = some (.string xc) ∧ Below w.heap.size w u)
        (first | exact hS2 | exact K _ _ (by assumption) (by assumption))
        (first | (go_at_call 27; refine (MA _).mono ?_; rintro e w' ⟨rfl, hbw⟩))
      all_goals
        have hE := (show w'.cell? ⟨g, k * 3, none⟩ = some (.string xa) ∧ w'.cell? ⟨g, k * 3 + 1, none⟩ = some (.string xb) ∧ w'.cell? ⟨g, k * 3 + 2, none⟩ = some (.string xc) ∧ Below w.heap.size w w' by assumption)
        obtain ⟨u5, hu5⟩ : ∃ u5, u5 = w' := ⟨_, rfl⟩
        subst hu5
        have hT := hE
        have hT2 := keepH hg ((Below.refl u5.heap.size u5).drew) hE
        clear hS hS2 MA
        try clear hbw
        go_wp2_with fail
        go_region_held (fun u => u.cell? ⟨g, k * 3, none⟩ = some (.string xa) ∧ u.cell? ⟨g, k * 3 + 1, none⟩ = some (.string xb) ∧ u.cell? ⟨g, k * 3 + 2, none⟩ = some (.string xc) ∧ Below w.heap.size w u)
          (first | exact hT2 | exact K _ _ (by assumption) (by assumption))
          (first | (go_at_call 27; refine (MB _).mono ?_; rintro e w' ⟨rfl, hbw⟩))
        all_goals
          have hE2 := (show w'.cell? ⟨g, k * 3, none⟩ = some (.string xa) ∧ w'.cell? ⟨g, k * 3 + 1, none⟩ = some (.string xb) ∧ w'.cell? ⟨g, k * 3 + 2, none⟩ = some (.string xc) ∧ Below w.heap.size w w' by assumption)
          obtain ⟨u6, hu6⟩ : ∃ u6, u6 = w' := ⟨_, rfl⟩
          subst hu6
          have hV2 := keepH hg ((Below.refl u6.heap.size u6).drew) hE2
          clear hT hT2 hE MB
          try clear hbw
          go_wp2_with fail
          go_region_held (fun u => u.cell? ⟨g, k * 3, none⟩ = some (.string xa) ∧ u.cell? ⟨g, k * 3 + 1, none⟩ = some (.string xb) ∧ u.cell? ⟨g, k * 3 + 2, none⟩ = some (.string xc) ∧ Below w.heap.size w u)
            (first | exact hV2 | exact K _ _ (by assumption) (by assumption))
            (first | (go_at_call 27; refine (MC _).mono ?_; rintro e w' ⟨rfl, hbw⟩))
          all_goals
            have hE3 := (show w'.cell? ⟨g, k * 3, none⟩ = some (.string xa) ∧ w'.cell? ⟨g, k * 3 + 1, none⟩ = some (.string xb) ∧ w'.cell? ⟨g, k * 3 + 2, none⟩ = some (.string xc) ∧ Below w.heap.size w w' by assumption).2.2.2
            clear hE2 hV2 MC K
            go_wp2
            exact ⟨⟨k + 1, by omega, by go_num, by have := HM.out; rw [show m + 3 * (k + 1) = M + 1 + 1 + 1 by omega]; go_num, hE3⟩, by simp [intOf]; omega⟩
    · have hkz : k = n := by omega
      subst hkz
      go_wp2
      go_ret
      exact ⟨rfl, hb⟩

theorem heldR_any {w : World} {B : Nat} {v : Value} {n m : Nat} (hm0 : 0 < m) (hm1 : m ≤ 1073741824) (hz : n ≤ 1048576) (hI : Rws w B v (seqR m n)) :
    Calls Try.prog 28 #[v, .int .i64 (m : Int)] w fun e w' => e = .returned (.int .i64 ((m + 3 * n : Nat) : Int)) ∧ Below w.heap.size w w' := by
  have hl := seqR_len m n
  rcases hI.form with ⟨rfl, h⟩ | ⟨g, cap, rfl, _, _⟩
  · rw [h] at hl
    have : n = 0 := by simpa using hl.symm
    subst this
    exact heldR_none w none 0 m
  · have := heldR_row w B g cap n m hm0 hm1 hz hI
    rw [hl]
    exact this
end Go.Proofs.Ytecgkekafbimaaa
