/- Marks in rows of ints: the laws' markIntS. -/
import Derived.Test.YtanfebccenfffahGreatDoorEqI
namespace Go.Proofs.YtanfebccenfffahGreatDoor
open Go.RowKit

/-- The numbers from m on. -/
def seqK (m : Int) (n : Nat) : List Int := (List.range n).map fun (j : Nat) => m + (j : Int)

theorem seqK_len (m : Int) (n : Nat) : (seqK m n).length = n := by simp [seqK]
theorem seqK_at (m : Int) (n j : Nat) (h : j < n) : (seqK m n)[j]? = some (m + (j : Int)) := by simp [seqK, h]

/-- The row behind k marks. -/
def mkK (zs : List Int) (m : Int) : Nat → List Int
  | 0 => zs
  | k + 1 => (mkK zs m k).set k (m + (k : Int))

theorem mkK_len (zs : List Int) (m : Int) (k : Nat) : (mkK zs m k).length = zs.length := by
  induction k with
  | zero => rfl
  | succ k ih => simp [mkK, ih]

theorem mkK_at (zs : List Int) (m : Int) (k j : Nat) (hj : j < k) (hl : j < zs.length) : (mkK zs m k)[j]? = some (m + (j : Int)) := by
  induction k with
  | zero => omega
  | succ k ih =>
    simp only [mkK, List.getElem?_set, mkK_len]
    by_cases e : k = j
    · subst e; simp [hl]
    · rw [if_neg e]; exact ih (by omega)

theorem mkK_all (zs : List Int) (m : Int) : mkK zs m zs.length = seqK m zs.length := by
  apply List.ext_getElem?
  intro j
  by_cases h : j < zs.length
  · rw [mkK_at zs m _ j h h, seqK_at m _ j h]
  · rw [List.getElem?_eq_none (by rw [mkK_len]; omega), List.getElem?_eq_none (by rw [seqK_len]; omega)]

theorem mkK_map (zs : List Int) (m : Int) (k : Nat) : ((mkK zs m k).map (Value.int .i64)).set k (.int .i64 (m + (k : Int))) = (mkK zs m (k + 1)).map (Value.int .i64) := by
  simp [mkK, List.map_set]

set_option maxRecDepth 100000 in
set_option maxHeartbeats 1000000 in
theorem markK_none (w : World) (a : Option Addr) (c : Nat) (m : Int) : Calls Tryz.prog 39 #[.slice a 0 c, .int .i64 m] w fun e w' => e = .returned (.int .i64 m) ∧ w' = w := by
  go_enter Tryz.func39, Tryz.ntmps39
  go_wp2
  go_loop [1, 5] (fun k i => k = .int .i64 m ∧ i = .int .i64 0) (fun _ _ => 0)
  case atStart => exact ⟨rfl, rfl⟩
  case round =>
    obtain ⟨rfl, rfl⟩ := hrel
    go_wp2
    go_ret
    exact ⟨rfl, rfl⟩

def MkRel (w : World) (B g cap : Nat) (zs : List Int) (m0 : Int) (m i : Value) (wr : World) : Prop :=
  ∃ k : Nat, k ≤ zs.length ∧ i = .int .i64 k ∧ m = .int .i64 (m0 + (k : Int)) ∧ wr.ownsRow B 3 1 (.slice (some ⟨g, 0, none⟩) zs.length cap) zs.length ((mkK zs m0 k).map (Value.int .i64)) ∧ w.grownBy wr (some g)

set_option maxRecDepth 100000 in
set_option maxHeartbeats 1000000 in
theorem markK_row (w : World) (B g cap : Nat) (zs : List Int) (m : Int) (hm0 : 0 ≤ m) (hm1 : m ≤ 1099511627776) (hz : zs.length ≤ 1073741824) (hI : w.ownsRow B 3 1 (.slice (some ⟨g, 0, none⟩) zs.length cap) zs.length (zs.map (Value.int .i64))) :
    Calls Tryz.prog 39 #[.slice (some ⟨g, 0, none⟩) zs.length cap, .int .i64 m] w fun e w' => e = .returned (.int .i64 (m + (zs.length : Int))) ∧ w'.ownsRow B 3 1 (.slice (some ⟨g, 0, none⟩) zs.length cap) zs.length ((mkK zs m zs.length).map (Value.int .i64)) ∧ w.grownBy w' (some g) := by
  go_enter Tryz.func39, Tryz.ntmps39
  go_wp2
  go_loopw [1, 5] (fun mv i wr => MkRel w B g cap zs m mv i wr) (fun _ i _ => zs.length - (intOf i).toNat)
  case atStart => exact ⟨0, Nat.zero_le _, rfl, by simp, hI, World.grownBy.refl _ _⟩
  case round =>
    clear hI
    obtain ⟨k, hk, rfl, rfl, hown, hg⟩ := hrel
    by_cases hlt : k < zs.length
    · have c1 := hown.cellAt k (by omega)
      have hm : ((mkK zs m k).map (Value.int .i64))[k]? = some (.int .i64 ((mkK zs m k)[k]?.getD 0)) := by
        have := mkK_len zs m k
        simp [this, hlt]
      rw [hm] at c1
      have c2 := hown.frozenAt k
      have hst := hown.stored k (.int .i64 (m + (k : Int)))
      rw [mkK_map] at hst
      have HST : Hid _ := hst
      clear hst hm
      go_wp2
      go_roundw
      case rel => exact ⟨k + 1, by omega, by go_num, by go_num, HST.out.1, hg.trans HST.out.2⟩
      case measure => simp [intOf]; omega
    · have hkz : k = zs.length := by omega
      subst hkz
      go_wp2
      go_ret
      exact ⟨rfl, hown, hg⟩

theorem markK_any {w : World} {B : Nat} {v : Value} {zs : List Int} {m : Int} (hm0 : 0 ≤ m) (hm1 : m ≤ 1099511627776) (hz : zs.length ≤ 1073741824) (hI : Ints w B v zs) :
    Calls Tryz.prog 39 #[v, .int .i64 m] w fun e w' => e = .returned (.int .i64 (m + (zs.length : Int))) ∧ Ints w' B v (seqK m zs.length) ∧ w.grownBy w' v.ownBlock := by
  rcases hI.form with ⟨rfl, rfl⟩ | ⟨g, cap, rfl, h1, h2⟩
  · refine (markK_none w _ _ m).mono ?_
    rintro e w' ⟨rfl, rfl⟩
    exact ⟨by simp, hI, World.grownBy.refl _ _⟩
  · refine (markK_row w B g cap zs m hm0 hm1 hz hI).mono ?_
    rintro e w' ⟨rfl, h3, h4⟩
    refine ⟨rfl, ?_, h4⟩
    unfold Ints
    rw [seqK_len, ← mkK_all]
    exact h3
end Go.Proofs.YtanfebccenfffahGreatDoor
