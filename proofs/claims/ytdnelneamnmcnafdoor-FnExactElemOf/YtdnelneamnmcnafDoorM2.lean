/- Texts of mine laid together: EqI, ToInt, Rows1, RowKinds, Grown1. -/
import Derived.Test.YtdnelneamnmcnafDoorInts
import Derived.WalkSmall
import Derived.BigQuiet
import Derived.Deep.QuietTactic
import Derived.Laws.OwnMore
import Derived.OwnWalk
import Derived.OpenShut
import Derived.Test.YtdnelneamnmcnafDoorM1
import Derived.WalkKit
import Derived.Below
namespace Go.Proofs.YtdnelneamnmcnafDoor
open Go.RowKit

set_option maxRecDepth 100000 in
set_option maxHeartbeats 1000000 in
theorem eq_none (w : World) (a b : Option Addr) (c d : Nat) : Calls Tryd.prog 11 #[.slice a 0 c, .slice b 0 d] w fun e w' => e = .returned (.bool true) ∧ ∃ n, w' = w.drewN n := by
  go_enter Tryd.func11, Tryd.ntmps11
  go_wp2
  go_loopw [5] (fun i wr => i = .int .i64 0 ∧ wr = w) (fun _ _ => 0)
  case atStart => exact ⟨rfl, rfl⟩
  case round =>
    obtain ⟨rfl, rfl⟩ := hrel
    go_wp2
    go_ret
    exact ⟨rfl, 0, rfl⟩

set_option maxRecDepth 100000 in
set_option maxHeartbeats 1000000 in
theorem eq_row (w : World) (g g' cap cap' : Nat) (zs : List Int) (hz : zs.length ≤ maxLen)
    (h1 : ∀ j, j < zs.length → w.cell? ⟨g, j, none⟩ = some (.int .i64 (zs[j]?.getD 0)))
    (h2 : ∀ j, j < zs.length → w.cell? ⟨g', j, none⟩ = some (.int .i64 (zs[j]?.getD 0))) :
    Calls Tryd.prog 11 #[.slice (some ⟨g, 0, none⟩) zs.length cap, .slice (some ⟨g', 0, none⟩) zs.length cap'] w fun e w' => e = .returned (.bool true) ∧ ∃ n, w' = w.drewN n := by
  unfold maxLen at hz
  go_enter Tryd.func11, Tryd.ntmps11
  go_wp2
  go_loopw [5] (fun i wr => ∃ k nq : Nat, k ≤ zs.length ∧ i = .int .i64 k ∧ wr = w.drewN nq) (fun i _ => zs.length - (intOf i).toNat)
  case atStart => exact ⟨0, 0, Nat.zero_le _, rfl, rfl⟩
  case round =>
    obtain ⟨k, nq, hk, rfl, rfl⟩ := hrel
    by_cases hlt : k < zs.length
    · have g1 := h1 k hlt
      have g2 := h2 k hlt
      have hz2 : (k : Int) < (zs.length : Int) := by omega
      have HZ : Hid (zs.length ≤ 2 ^ 63 - 1) := hz
      have H1 : Hid _ := h1
      have H2 : Hid _ := h2
      clear h1 h2
      go_wp2
      go_quiet (fail)
      go_wp2
      go_roundw
      case rel => exact ⟨k + 1, _, by omega, by go_num, rfl⟩
      case measure => simp [intOf]; omega
    · go_wp2
      go_ret
      exact ⟨rfl, _, rfl⟩

theorem eq_any {w : World} {B B' : Nat} {a b : Value} {zs : List Int} (ha : Ints w B a zs) (hb : Ints w B' b zs) :
    Calls Tryd.prog 11 #[a, b] w fun e w' => e = .returned (.bool true) ∧ ∃ n, w' = w.drewN n := by
  rcases ha.form with ⟨rfl, rfl⟩ | ⟨g, cap, rfl, h1, h2⟩
  · rcases hb.form with ⟨rfl, _⟩ | ⟨g', cap', rfl, _, _⟩
    · exact eq_none w _ _ _ _
    · exact eq_none w _ _ _ _
  · rcases hb.form with ⟨rfl, rfl⟩ | ⟨g', cap', rfl, _, _⟩
    · exact eq_none w _ _ _ _
    · exact eq_row w g g' cap cap' zs (by omega) (fun j hj => ha.cell j hj) (fun j hj => hb.cell j hj)
end Go.Proofs.YtdnelneamnmcnafDoor

namespace Go.Proofs.YtdnelneamnmcnafDoor
open Go.RowKit

def filled (zs : List Int) (n : Nat) : Nat → List Int
  | 0 => List.replicate n 0
  | k + 1 => (filled zs n k).set k (zs[k]?.getD 0)

theorem filled_length (zs : List Int) (n k : Nat) : (filled zs n k).length = n := by
  induction k with
  | zero => simp [filled]
  | succ k ih => simp [filled, ih]

theorem filled_at (zs : List Int) (n k j : Nat) (hj : j < k) (hn : j < n) : (filled zs n k)[j]? = some (zs[j]?.getD 0) := by
  induction k with
  | zero => omega
  | succ k ih =>
    simp only [filled, List.getElem?_set, filled_length]
    by_cases e : k = j
    · subst e; simp [hn]
    · rw [if_neg e]; exact ih (by omega)

theorem filled_all (zs : List Int) (n : Nat) (h : n ≤ zs.length) : filled zs n n = zs.take n := by
  apply List.ext_getElem?
  intro j
  by_cases hj : j < n
  · rw [filled_at zs n n j hj hj]
    rw [List.getElem?_take, if_pos hj, List.getElem?_eq_getElem (by omega)]
    rfl
  · rw [List.getElem?_eq_none (by rw [filled_length]; omega), List.getElem?_eq_none (by simp; omega)]

theorem filled_map (zs : List Int) (n k : Nat) : ((filled zs n k).map (Value.int .i64)).set k (.int .i64 (zs[k]?.getD 0)) = (filled zs n (k + 1)).map (Value.int .i64) := by
  simp [filled, List.map_set]

def ToRel (w : World) (n : Nat) (zs : List Int) (i : Value) (wr : World) : Prop :=
  ∃ k : Nat, k ≤ n ∧ i = .int .i64 k ∧ wr.ownsRow w.heap.size 3 1 (.slice (some ⟨w.heap.size, 0, none⟩) n n) n ((filled zs n k).map (Value.int .i64)) ∧ Below w.heap.size w wr

theorem made_ints (n : Nat) : (madeCells (Value.int .i64 0).cells (n * 1)).toList = (List.replicate n (0 : Int)).map (Value.int .i64) := by
  have h := toList_madeCells_one (Value.int .i64 0) n
  simpa [Value.cells] using h

set_option maxRecDepth 100000 in
set_option maxHeartbeats 1000000 in
theorem toInt_none (w : World) (a : Option Addr) (c : Nat) :
    Calls Tryd.prog 7 #[.slice a 0 c] w fun e w' => ∃ v, e = .returned v ∧ Ints w' w.heap.size v [] ∧ Below w.heap.size w w' := by
  obtain ⟨i0, hi, hz0, hz1, hz2⟩ := info_parts info_int
  go_enter Tryd.func7, Tryd.ntmps7
  go_wp2_with (at_make; refine wpList_make_full _ rfl _ _ 25 rfl w.heap.size 3 i0 (.int .i64 0) 1 Tryd.underlying25 hi hz0 hz1 .i64 .i64 _ _ 0 rfl rfl rfl rfl (by omega) (by unfold maxLen; omega) (Nat.le_refl _) ?_; intro w1 hown hgr)
  have hI : Ints w1 w.heap.size (.slice (some ⟨w.heap.size, 0, none⟩) 0 0) [] := by
    rw [made_ints] at hown
    simpa [Ints] using hown
  have hb1 : Below w.heap.size w w1 := Below.grown (Below.refl _ _) hgr (Nat.le_refl _) (fun j hj => by cases hj)
  clear hown hgr
  go_loopw [4] (fun i wr => i = .int .i64 0 ∧ wr = w1) (fun _ _ => 0)
  case atStart => exact ⟨rfl, rfl⟩
  case round =>
    obtain ⟨rfl, rfl⟩ := hrel
    go_wp2
    go_ret
    exact ⟨_, rfl, hI, hb1⟩

set_option maxRecDepth 100000 in
set_option maxHeartbeats 1000000 in
theorem toInt_row (w : World) (b off n cap : Nat) (zs : List Int) (hn : n ≤ zs.length) (hm : n ≤ 1073741824) (hb : b < w.heap.size)
    (hc : ∀ j, j < n → w.cell? ⟨b, off + j, none⟩ = some (.int .i64 (zs[j]?.getD 0))) :
    Calls Tryd.prog 7 #[.slice (some ⟨b, off, none⟩) n cap] w fun e w' => ∃ v, e = .returned v ∧ Ints w' w.heap.size v (zs.take n) ∧ Below w.heap.size w w' := by
  obtain ⟨i0, hi, hz0, hz1, hz2⟩ := info_parts info_int
  go_enter Tryd.func7, Tryd.ntmps7
  go_wp2_with (at_make; refine wpList_make_full _ rfl _ _ 25 rfl w.heap.size 3 i0 (.int .i64 0) 1 Tryd.underlying25 hi hz0 hz1 .i64 .i64 _ _ n rfl rfl rfl rfl (by rw [hz2]; omega) (by unfold maxLen; omega) (Nat.le_refl _) ?_; intro w1 hown hgr)
  have hI : w1.ownsRow w.heap.size 3 1 (.slice (some ⟨w.heap.size, 0, none⟩) n n) n ((filled zs n 0).map (Value.int .i64)) := by
    rw [made_ints] at hown
    exact hown
  have hb1 : Below w.heap.size w w1 := Below.grown (Below.refl _ _) hgr (Nat.le_refl _) (fun j hj => by cases hj)
  clear hown hgr
  go_loopw [4] (fun i wr => ToRel w n zs i wr) (fun i _ => n - (intOf i).toNat)
  case atStart => exact ⟨0, Nat.zero_le _, rfl, hI, hb1⟩
  case round =>
    clear hI hb1
    obtain ⟨k, hk, rfl, hown, hbw⟩ := hrel
    by_cases hlt : k < n
    · have c0 := (hbw.cell (p := ⟨b, off + k, none⟩) hb).trans (hc k hlt)
      have c1 := hown.cellAt k (by omega)
      have hm2 : ((filled zs n k).map (Value.int .i64))[k]? = some (.int .i64 ((filled zs n k)[k]?.getD 0)) := by
        have := filled_length zs n k
        simp [this, hlt]
      rw [hm2] at c1
      have c2 := hown.frozenAt k
      have hst := hown.stored k (.int .i64 (zs[k]?.getD 0))
      rw [filled_map] at hst
      have HST : Hid _ := hst
      have hkz : k < zs.length := by omega
      obtain ⟨x, hx⟩ : ∃ x, x = zs[k]?.getD 0 := ⟨_, rfl⟩
      rw [← hx] at c0 HST
      have HX : Hid _ := hx
      have HC : Hid _ := hc
      clear hst hm2 hx hc
      go_wp2
      go_roundw
      case rel => exact ⟨k + 1, by omega, by go_num, HST.out.1, Below.grown hbw HST.out.2 hbw.size (fun j hj => by cases hj; exact Nat.le_refl _)⟩
      case measure => simp [intOf]; omega
    · have hkz : k = n := by omega
      subst hkz
      have hf := filled_all zs k hn
      rw [hf] at hown
      have hl : (zs.take k).length = k := by simp; omega
      have hown2 : Ints wr w.heap.size (.slice (some ⟨w.heap.size, 0, none⟩) k k) (zs.take k) := by
        unfold Ints; rw [hl]; exact hown
      clear hf hl hown hc
      go_wp2
      go_ret
      exact ⟨_, rfl, hown2, hbw⟩
end Go.Proofs.YtdnelneamnmcnafDoor

namespace Go.Proofs.YtdnelneamnmcnafDoor
open Go.RowKit

theorem toInt_any (w w1 : World) (a0 : Option Addr) (len cap : Nat) (zs : List Int) (h : IsRow .i64 w a0 len cap zs) (hb : Below w.heap.size w w1) (hm : len ≤ 1048576) :
    Calls Tryd.prog 7 #[.slice a0 len cap] w1 fun e w' => ∃ v, e = .returned v ∧ Ints w' w1.heap.size v (zs.take len) ∧ Below w1.heap.size w1 w' := by
  rcases h with ⟨rfl, rfl, rfl, rfl⟩ | ⟨x, rfl, hl, hc, hz, hcell, _⟩
  · exact toInt_none w1 _ _
  · by_cases h0 : len = 0
    · subst h0
      exact toInt_none w1 _ _
    · obtain ⟨b, off, rfl, hc2⟩ := ints_at hcell (by omega)
      have hlt : b < w.heap.size := by
        have h1 := hc2 0 (by omega)
        apply Classical.byContradiction
        intro hn
        have : w.heap[b]? = none := by simp; omega
        simp [World.cell?, this] at h1
      exact toInt_row w1 b off len cap zs (by omega) (by omega) (Nat.lt_of_lt_of_le hlt hb.size) (fun j hj => by
        rw [hb.cell (p := ⟨b, off + j, none⟩) hlt, hc2 j (by omega)]; rfl)
end Go.Proofs.YtdnelneamnmcnafDoor

namespace Go.Proofs.YtdnelneamnmcnafDoor
open Go.RowKit

theorem own_type {u : World} {B B' e e' size size' n n' : Nat} {v v' : Value} {xs xs' : List Value} (h : u.ownsRow B e size v n xs) (h' : u.ownsRow B' e' size' v' n' xs') (he : e ≠ e') : v.ownBlock = none ∨ v.ownBlock ≠ v'.ownBlock := by
  rcases h.2 with ⟨rfl, _⟩ | ⟨g, cap, cur, rfl, _, hg, _⟩
  · exact .inl rfl
  · refine .inr fun c => ?_
    rcases h'.2 with ⟨rfl, _⟩ | ⟨g', cap', cur', rfl, _, hg', _⟩
    · cases c
    · have : g = g' := Option.some.inj c
      subst this
      rw [hg] at hg'
      injection hg' with e1
      injection e1 with _ e2 _
      exact he e2

end Go.Proofs.YtdnelneamnmcnafDoor

namespace Go.Proofs.YtdnelneamnmcnafDoor
open Go.RowKit

theorem setCell_grown (u : World) (b o : Nat) (x : Value) : u.grownBy (u.setCell ⟨b, o, none⟩ x) (some b) := by
  refine ⟨rfl, rfl, rfl, by simp, fun k hk hne => ?_⟩
  have h : b ≠ k := fun e => hne (by rw [e])
  simp [World.setCell, Array.getElem?_modify, h]

theorem grown_ge {w u u' : World} {b : Nat} (h : Below w.heap.size w u) (hg : u.grownBy u' (some b)) (hb : w.heap.size ≤ b) : Below w.heap.size w u' := Below.grown h hg h.size (fun j hj => by cases hj; exact hb)
end Go.Proofs.YtdnelneamnmcnafDoor
