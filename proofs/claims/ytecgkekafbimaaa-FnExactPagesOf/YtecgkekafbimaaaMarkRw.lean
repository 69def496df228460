/- Contracts of the laws' markRowS and heldRowS. -/
import Derived.Test.YtecgkekafbimaaaRw
import Derived.Test.YtecgkekafbimaaaMarkT
import Derived.Deep.RegionHeld
namespace Go.Proofs.Ytecgkekafbimaaa
open Go.RowKit

def mrk (m j : Nat) : Rw := ⟨mtx (m + 3 * j), mtx (m + 3 * j + 1), mtx (m + 3 * j + 2)⟩
def seqR (m n : Nat) : List Rw := (List.range n).map (mrk m)

theorem seqR_len (m n : Nat) : (seqR m n).length = n := by simp [seqR]
theorem seqR_at (m n j : Nat) (h : j < n) : (seqR m n)[j]? = some (mrk m j) := by simp [seqR, h]

/-- The rows behind k marks. -/
def mkR (l : List Rw) (m : Nat) : Nat → List Rw
  | 0 => l
  | k + 1 => (mkR l m k).set k (mrk m k)

theorem mkR_len (l : List Rw) (m k : Nat) : (mkR l m k).length = l.length := by
  induction k with
  | zero => rfl
  | succ k ih => simp [mkR, ih]

theorem mkR_at (l : List Rw) (m k j : Nat) (hj : j < k) (hl : j < l.length) : (mkR l m k)[j]? = some (mrk m j) := by
  induction k with
  | zero => omega
  | succ k ih =>
    simp only [mkR, List.getElem?_set, mkR_len]
    by_cases e : k = j
    · subst e; simp [hl]
    · rw [if_neg e]; exact ih (by omega)

theorem mkR_all (l : List Rw) (m : Nat) : mkR l m l.length = seqR m l.length := by
  apply List.ext_getElem?
  intro j
  by_cases h : j < l.length
  · rw [mkR_at l m _ j h h, seqR_at m _ j h]
  · rw [List.getElem?_eq_none (by rw [mkR_len]; omega), List.getElem?_eq_none (by rw [seqR_len]; omega)]

set_option maxRecDepth 100000 in
set_option maxHeartbeats 1000000 in
theorem markR_none (w : World) (a : Option Addr) (c : Nat) (m : Int) : Calls Try.prog 11 #[.slice a 0 c, .int .i64 m] w fun e w' => e = .returned (.int .i64 m) ∧ w' = w := by
  go_enter Try.func11, Try.ntmps11
  go_wp2
  go_loop [1, 5] (fun k i => k = .int .i64 m ∧ i = .int .i64 0) (fun _ _ => 0)
  case atStart => exact ⟨rfl, rfl⟩
  case round =>
    obtain ⟨rfl, rfl⟩ := hrel
    go_wp2
    go_ret
    exact ⟨rfl, rfl⟩

def MRRel (w : World) (B g cap : Nat) (l : List Rw) (m : Nat) (mv i : Value) (wr : World) : Prop :=
  ∃ k : Nat, k ≤ l.length ∧ i = .int .i64 k ∧ mv = .int .i64 ((m + 3 * k : Nat) : Int) ∧ wr.ownsRow B 43 3 (.slice (some ⟨g, 0, none⟩) l.length cap) l.length (rwAll (mkR l m k)) ∧ w.grownBy wr (some g)

theorem markText_int (M : Nat) (z : Int) (hz : z = (M : Int)) (h0 : 0 < M) (h1 : M ≤ 1099511627776) (w : World) : Calls Try.prog 27 #[.int .i64 z] w fun e w' => e = .returned (.string (mtx M)) ∧ Below w.heap.size w w' := by
  subst hz
  exact markText_pos M w h0 h1

theorem row_kept {w w' : World} {B g cap n : Nat} {xs : List Value} (h : w.ownsRow B 43 3 (.slice (some ⟨g, 0, none⟩) n cap) n xs) (hb : Below w.heap.size w w') : w'.ownsRow B 43 3 (.slice (some ⟨g, 0, none⟩) n cap) n xs :=
  World.ownsRow.kept h (row := none) ⟨hb.os, hb.tape, hb.output, hb.size, fun k hk _ => hb.block k hk⟩ (by simp [Value.ownBlock])

theorem below_gr {w w' : World} {r : Option Nat} (hb : Below w.heap.size w w') : w.grownBy w' r := ⟨hb.os, hb.tape, hb.output, hb.size, fun k hk _ => hb.block k hk⟩

theorem rw_cell_at {w : World} {B g cap : Nat} {l L : List Rw} {xs : List Value} (hL : L.length = l.length) (h : w.ownsRow B 43 3 (.slice (some ⟨g, 0, none⟩) l.length cap) l.length xs) (hx : xs.length = (rwAll L).length) {j : Nat} (hj : j < l.length * 3) : ∃ y, w.cell? ⟨g, j, none⟩ = some y := by
  have hc := World.ownsRow.cellAt h j (by omega)
  have hl : j < xs.length := by rw [hx, rwAll_len, hL]; omega
  rw [List.getElem?_eq_getElem hl] at hc
  exact ⟨_, hc⟩

set_option maxRecDepth 100000 in
set_option maxHeartbeats 2000000 in
theorem markR_row (w : World) (B g cap : Nat) (l : List Rw) (m : Nat) (hm0 : 0 < m) (hm1 : m ≤ 1073741824) (hz : l.length ≤ 1048576) (hI : w.ownsRow B 43 3 (.slice (some ⟨g, 0, none⟩) l.length cap) l.length (rwAll l)) :
    Calls Try.prog 11 #[.slice (some ⟨g, 0, none⟩) l.length cap, .int .i64 (m : Int)] w fun e w' => e = .returned (.int .i64 ((m + 3 * l.length : Nat) : Int)) ∧ w'.ownsRow B 43 3 (.slice (some ⟨g, 0, none⟩) l.length cap) l.length (rwAll (mkR l m l.length)) ∧ w.grownBy w' (some g) := by
  go_enter Try.func11, Try.ntmps11
  go_wp2
  go_loopw [1, 5] (fun mv i wr => MRRel w B g cap l m mv i wr) (fun _ i _ => l.length - (intOf i).toNat)
  case atStart => exact ⟨0, Nat.zero_le _, rfl, by simp, hI, World.grownBy.refl _ _⟩
  case round =>
    clear hI
    obtain ⟨k, hk, rfl, rfl, hown, hg⟩ := hrel
    by_cases hlt : k < l.length
    · have hk8 : (k : Int) < (l.length : Int) := by omega
      have hmr : rwAll (mkR l m (k + 1)) = (((rwAll (mkR l m k)).set (k * 3) (.string (mtx (m + 3 * k)))).set (k * 3 + 1) (.string (mtx (m + 3 * k + 1)))).set (k * 3 + 2) (.string (mtx (m + 3 * k + 2))) := rwAll_set _ _ _ (by rw [mkR_len]; exact hlt)
      have hmL := mkR_len l m k
      obtain ⟨M, hM⟩ : ∃ M, M = m + 3 * k := ⟨_, rfl⟩
      rw [← hM] at hmr ⊢
      have M0 : 0 < M := by omega
      have M1 : M ≤ 1099511000000 := by omega
      have HMR : Hid _ := hmr
      have HM : Hid _ := hM
      have HW : Hid (World.ownsRow _ _ _ _ _ _ _) := hown
      have HGR : Hid (World.grownBy _ _ _) := hg
      clear hM hown hg hmr
      go_wp2_with fail
      refine (markText_int M _ rfl M0 (by omega) _).mono ?_
      rintro e w2 ⟨rfl, b2⟩
      have h2 := row_kept HW.out b2
      obtain ⟨y2, c2⟩ := rw_cell_at hmL h2 rfl (j := k * 3) (by omega)
      have f2 := h2.frozenAt (k * 3)
      have s2 := h2.stored (k * 3) (.string (mtx M))
      have HS2 : Hid (World.ownsRow _ _ _ _ _ _ _) := s2.1
      have HG2 : Hid (w.grownBy (w2.setCell ⟨g, k * 3, none⟩ (.string (mtx M))) (some g)) := (HGR.out.trans (below_gr b2)).trans s2.2
      clear h2 s2 b2 HW HGR
      go_wp2_with fail
      refine (markText_int (M + 1) _ (by omega) (by omega) (by omega) _).mono ?_
      rintro e w3 ⟨rfl, b3⟩
      have h3 := row_kept HS2.out b3
      obtain ⟨y3, c3⟩ := rw_cell_at hmL h3 (by simp) (j := k * 3 + 1) (by omega)
      have f3 := h3.frozenAt (k * 3 + 1)
      have s3 := h3.stored (k * 3 + 1) (.string (mtx (M + 1)))
      have HS3 : Hid (World.ownsRow _ _ _ _ _ _ _) := s3.1
      have HG3 : Hid (w.grownBy (w3.setCell ⟨g, k * 3 + 1, none⟩ (.string (mtx (M + 1)))) (some g)) := (HG2.out.trans (below_gr b3)).trans s3.2
      clear h3 s3 b3 HS2 HG2 c2 f2
      go_wp2_with fail
      refine (markText_int (M + 2) _ (by omega) (by omega) (by omega) _).mono ?_
      rintro e w4 ⟨rfl, b4⟩
      have h4 := row_kept HS3.out b4
      obtain ⟨y4, c4⟩ := rw_cell_at hmL h4 (by simp) (j := k * 3 + 2) (by omega)
      have f4 := h4.frozenAt (k * 3 + 2)
      have s4 := h4.stored (k * 3 + 2) (.string (mtx (M + 2)))
      have HS4 : Hid (World.ownsRow _ _ _ _ _ _ _) := s4.1
      have HG4 : Hid (w.grownBy (w4.setCell ⟨g, k * 3 + 2, none⟩ (.string (mtx (M + 2)))) (some g)) := (HG3.out.trans (below_gr b4)).trans s4.2
      clear h4 s4 b4 HS3 HG3 c3 f3
      go_wp2
      exact ⟨⟨k + 1, by omega, by go_num, by have := HM.out; rw [show m + 3 * (k + 1) = M + 1 + 1 + 1 by omega]; go_num, by rw [HMR.out]; exact HS4.out, HG4.out⟩, by simp [intOf]; omega⟩
    · have hkz : k = l.length := by omega
      subst hkz
      go_wp2
      go_ret
      exact ⟨rfl, hown, hg⟩

theorem markR_any {w : World} {B : Nat} {v : Value} {l : List Rw} {m : Nat} (hm0 : 0 < m) (hm1 : m ≤ 1073741824) (hz : l.length ≤ 1048576) (hI : Rws w B v l) :
    Calls Try.prog 11 #[v, .int .i64 (m : Int)] w fun e w' => e = .returned (.int .i64 ((m + 3 * l.length : Nat) : Int)) ∧ Rws w' B v (seqR m l.length) ∧ w.grownBy w' v.ownBlock := by
  rcases hI.form with ⟨rfl, rfl⟩ | ⟨g, cap, rfl, _, _⟩
  · refine (markR_none w _ _ m).mono ?_
    rintro e w' ⟨rfl, rfl⟩
    exact ⟨by simp, hI, World.grownBy.refl _ _⟩
  · refine (markR_row w B g cap l m hm0 hm1 hz hI).mono ?_
    rintro e w' ⟨rfl, h3, h4⟩
    refine ⟨rfl, ?_, h4⟩
    unfold Rws
    rw [seqR_len, ← mkR_all]
    exact h3
end Go.Proofs.Ytecgkekafbimaaa
