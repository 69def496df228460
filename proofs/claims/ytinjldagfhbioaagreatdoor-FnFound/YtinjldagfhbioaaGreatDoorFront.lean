/- Contracts of the program's sequenceAtFront and of the specification's l1One: both read the front of a text as the plain function 'one' says. -/
import Derived.Test.YtinjldagfhbioaaGreatDoorOne
import Derived.Test.YtinjldagfhbioaaGreatDoorDec
import Derived.WalkKit
import Derived.WalkSpells
import Derived.WalkLawsBesides
namespace Go.Proofs.YtinjldagfhbioaaGreatDoor
open Go.RowKit

theorem form_m (b m : Nat) (hb : b < 256) (hm : Dec.more b = (m : Int)) (w : World) :
    Calls Tryz.prog 56 #[.int .u8 (b : Int)] w fun e w' => e = .returned (.tuple #[.int .i64 ((m : Int) + 1), .int .u8 (Dec.lo1 b : Int), .int .u8 (Dec.hi1 b : Int)]) ∧ w' = w := by
  have h := form_any b hb w
  rw [hm] at h
  exact h

theorem form_no (b : Nat) (hb : b < 256) (hm : Dec.more b = -1) (w : World) :
    Calls Tryz.prog 56 #[.int .u8 (b : Int)] w fun e w' => e = .returned (.tuple #[.int .i64 0, .int .u8 (Dec.lo1 b : Int), .int .u8 (Dec.hi1 b : Int)]) ∧ w' = w := by
  have h := form_any b hb w
  rw [hm] at h
  exact h

theorem ret_ib {a a' : Int} {b b' : Bool} (h1 : a = a') (h2 : b = b') :
    Ending.returned (.tuple #[.int .i64 a, .bool b]) = .returned (.tuple #[.int .i64 a', .bool b']) := by rw [h1, h2]

theorem front_end (t : ByteArray) (m k lo hi r : Nat) (o : Int × Nat × Bool) (h : Dec.goes t m (m + 1 - k) k lo hi r = o) (hk : k ≤ m + 1)
    (hn : ¬ k < m + 1 ∨ ¬ (k < t.size ∧ lo ≤ Dec.bt t k ∧ Dec.bt t k ≤ hi)) : (k : Int) = (o.2.1 : Int) ∧ ((k : Int) == (m : Int) + 1) = o.2.2 := by
  by_cases c : k < m + 1
  · have hn' : ¬ (k < t.size ∧ lo ≤ Dec.bt t k ∧ Dec.bt t k ≤ hi) := by rcases hn with h | h; exact absurd c h; exact h
    rw [show m + 1 - k = (m - k) + 1 by omega, Dec.goes_no hn'] at h
    subst h
    refine ⟨rfl, ?_⟩
    simp; omega
  · have : k = m + 1 := by omega
    subst this
    rw [show m + 1 - (m + 1) = 0 by omega] at h
    subst h
    simp [Dec.goes]

theorem front_step (t : ByteArray) (m k lo hi r : Nat) (o : Int × Nat × Bool) (h : Dec.goes t m (m + 1 - k) k lo hi r = o) (hk : k < m + 1)
    (hy : k < t.size ∧ lo ≤ Dec.bt t k ∧ Dec.bt t k ≤ hi) : Dec.goes t m (m + 1 - (k + 1)) (k + 1) 128 191 (r * 64 + Dec.bt t k % 64) = o := by
  rw [show m + 1 - k = (m + 1 - (k + 1)) + 1 by omega, Dec.goes_yes _ rfl hy] at h
  exact h

set_option maxRecDepth 100000 in
set_option maxHeartbeats 1000000 in
theorem front_any (t : ByteArray) (h0 : 0 < t.size) (ht : t.size ≤ maxLen) (w : World) :
    Calls Tryz.prog 35 #[.string t] w fun e w' => e = .returned (.tuple #[.int .i64 ((Dec.one t).2.1 : Int), .bool (Dec.one t).2.2]) ∧ w' = w := by
  unfold maxLen at ht
  have hb0 : (t[0]'h0).toNat < 256 := (t[0]'h0).toNat_lt
  have e0 := Dec.bt_get t 0 h0
  rcases Dec.more_cases (t[0]'h0).toNat with hm | hm
  · have ho : Dec.one t = (65533, 1, false) := by unfold Dec.one; rw [← e0, hm]; rfl
    rw [ho]
    clear ho e0
    have F := fun w => form_no _ hb0 hm w
    clear hm
    go_enter Tryz.func35, Tryz.ntmps35
    go_wp2_with (go_at_call 56; refine (F _).mono ?_; rintro e w' ⟨rfl, rfl⟩)
    go_loop [5, 6, 7] (fun _ _ k => k = .int .i64 1) (fun _ _ _ => 0)
    case atStart => rfl
    case round =>
      subst hrel
      go_wp2
      go_ret2
      exact ⟨rfl, rfl⟩
  · obtain ⟨m, hm3, hm⟩ : ∃ m : Nat, m ≤ 3 ∧ Dec.more (t[0]'h0).toNat = (m : Int) := by
      rcases hm with h | h | h | h
      · exact ⟨0, by omega, h⟩
      · exact ⟨1, by omega, h⟩
      · exact ⟨2, by omega, h⟩
      · exact ⟨3, by omega, h⟩
    have HO : Hid (Dec.goes t m m 1 (Dec.lo1 (t[0]'h0).toNat) (Dec.hi1 (t[0]'h0).toNat) (Dec.first (t[0]'h0).toNat m) = Dec.one t) := by
      show _ = _
      unfold Dec.one
      rw [← e0, hm, if_neg (by omega)]
      rfl
    have F := fun w => form_m _ m hb0 hm w
    clear hm e0
    generalize Dec.one t = o at *
    have hl1 : Dec.lo1 (t[0]'h0).toNat < 256 := by unfold Dec.lo1; repeat' split
                                                   all_goals omega
    have hh1 : Dec.hi1 (t[0]'h0).toNat < 256 := by unfold Dec.hi1; repeat' split
                                                   all_goals omega
    go_enter Tryz.func35, Tryz.ntmps35
    go_wp2_with (go_at_call 56; refine (F _).mono ?_; rintro e w' ⟨rfl, rfl⟩)
    go_loop [5, 6, 7] (fun lo hi k => ∃ k' lo' hi' r : Nat, 1 ≤ k' ∧ k' ≤ m + 1 ∧ k' ≤ t.size ∧ lo' < 256 ∧ hi' < 256 ∧ k = .int .i64 k' ∧ lo = .int .u8 lo' ∧ hi = .int .u8 hi' ∧ Hid (Dec.goes t m (m + 1 - k') k' lo' hi' r = o)) (fun _ _ k => m + 1 - (intOf k).toNat)
    case atStart => exact ⟨1, _, _, _, by omega, by omega, by omega, hl1, hh1, rfl, rfl, rfl, HO⟩
    case round =>
      obtain ⟨k, lo, hi, r, hk1, hk2, hk3, hlo, hhi, rfl, rfl, rfl, HG⟩ := hrel
      clear HO F
      by_cases c1 : k < m + 1
      · by_cases c2 : k < t.size
        · have ek := Dec.bt_get t k c2
          have EK : Hid (Dec.bt t k = (t[k]'c2).toNat) := ek.symm
          clear ek
          have hbk : (t[k]'c2).toNat < 256 := (t[k]'c2).toNat_lt
          by_cases c3 : (lo : Int) ≤ ((t[k]'c2).toNat : Int)
          · by_cases c4 : ((t[k]'c2).toNat : Int) ≤ (hi : Int)
            · have HS : Hid _ := front_step t m k lo hi r o HG.out c1 ⟨c2, by rw [EK.out]; omega⟩
              go_wp2
              go_round
              case rel => exact ⟨k + 1, 128, 191, _, by omega, by omega, by omega, by omega, by omega, by go_num, rfl, rfl, HS⟩
              case measure => simp [intOf]; omega
            · have HS := front_end t m k lo hi r o HG.out hk2 (.inr (by rw [EK.out]; omega))
              have HS' : Hid _ := HS
              clear HS
              go_wp2
              go_ret2
              exact ⟨ret_ib HS'.out.1 HS'.out.2, rfl⟩
          · have HS' : Hid _ := front_end t m k lo hi r o HG.out hk2 (.inr (by rw [EK.out]; omega))
            go_wp2
            go_ret2
            exact ⟨ret_ib HS'.out.1 HS'.out.2, rfl⟩
        · have HS' : Hid _ := front_end t m k lo hi r o HG.out hk2 (.inr (by omega))
          go_wp2
          go_ret2
          exact ⟨ret_ib HS'.out.1 HS'.out.2, rfl⟩
      · have HS' : Hid _ := front_end t m k lo hi r o HG.out hk2 (.inl c1)
        go_wp2
        go_ret2
        exact ⟨ret_ib HS'.out.1 HS'.out.2, rfl⟩
end Go.Proofs.YtinjldagfhbioaaGreatDoor
