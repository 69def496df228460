/- Texts of mine laid together: One, Front, OneAt, Decode, SRead. -/
import Derived.Test.YtanfebccenfffaaDoorProg
import Derived.Test.YtanfebccenfffaaDoorDec
import Derived.WalkKit
import Derived.WalkSpells
import Derived.WalkLawsBesides
import Derived.Test.YtanfebccenfffaaDoorInts
import Derived.Lib.OthersKept
import Derived.Test.YtanfebccenfffaaDoorRdBox
namespace Go.Proofs.YtanfebccenfffaaDoor
open Go.RowKit

theorem ret3 {a a' b b' c c' : Int} (h1 : a = a') (h2 : b = b') (h3 : c = c') :
    Ending.returned (.tuple #[.int .i64 a, .int .u8 b, .int .u8 c]) = .returned (.tuple #[.int .i64 a', .int .u8 b', .int .u8 c']) := by rw [h1, h2, h3]

set_option maxHeartbeats 1000000 in
theorem form_any (b : Nat) (hb : b < 256) (w : World) :
    Calls Tryd.prog 120 #[.int .u8 (b : Int)] w fun e w' => e = .returned (.tuple #[.int .i64 (Dec.more b + 1), .int .u8 (Dec.lo1 b : Int), .int .u8 (Dec.hi1 b : Int)]) ∧ w' = w := by
  go_enter Tryd.func120, Tryd.ntmps120
  go_wp2
  all_goals
    go_ret3
    refine ⟨ret3 ?_ ?_ ?_, rfl⟩
    all_goals
      try simp only [beq_iff_eq, beq_eq_false_iff_ne, ne_eq] at *
      simp only [Dec.more, Dec.lo1, Dec.hi1]
      repeat' split
      all_goals omega

set_option maxRecDepth 100000 in
set_option maxHeartbeats 1000000 in
theorem lead_any (b : Nat) (hb : b < 256) (w : World) :
    Calls Tryd.prog 88 #[.int .u8 (b : Int)] w fun e w' => e = .returned (.tuple #[.int .i64 (Dec.more b), .int .u8 (Dec.lo0 b : Int), .int .u8 (Dec.hi0 b : Int)]) ∧ w' = w := by
  go_enter Tryd.func88, Tryd.ntmps88
  go_wp2
  all_goals
    go_ret3
    refine ⟨ret3 ?_ ?_ ?_, rfl⟩
    all_goals
      try simp only [beq_iff_eq, beq_eq_false_iff_ne, ne_eq] at *
      simp only [Dec.more, Dec.lo0, Dec.hi0, Dec.lo1, Dec.hi1]
      repeat' split
      all_goals omega
end Go.Proofs.YtanfebccenfffaaDoor

namespace Go.Proofs.YtanfebccenfffaaDoor
open Go.RowKit

theorem form_m (b m : Nat) (hb : b < 256) (hm : Dec.more b = (m : Int)) (w : World) :
    Calls Tryd.prog 120 #[.int .u8 (b : Int)] w fun e w' => e = .returned (.tuple #[.int .i64 ((m : Int) + 1), .int .u8 (Dec.lo1 b : Int), .int .u8 (Dec.hi1 b : Int)]) ∧ w' = w := by
  have h := form_any b hb w
  rw [hm] at h
  exact h

theorem form_no (b : Nat) (hb : b < 256) (hm : Dec.more b = -1) (w : World) :
    Calls Tryd.prog 120 #[.int .u8 (b : Int)] w fun e w' => e = .returned (.tuple #[.int .i64 0, .int .u8 (Dec.lo1 b : Int), .int .u8 (Dec.hi1 b : Int)]) ∧ w' = w := by
  have h := form_any b hb w
  rw [hm] at h
  exact h

theorem ret_ib {a a' : Int} {b b' : Bool} (h1 : a = a') (h2 : b = b') :
    Ending.returned (.tuple #[.int .i64 a, .bool b]) = .returned (.tuple #[.int .i64 a', .bool b']) := by rw [h1, h2]

theorem front_end (t : ByteArray) (m k lo hi r : Nat) (o : Int × Nat × Bool) (h : Dec.goes t m (m + 1 - k) k lo hi r = o) (hk : k ≤ m + 1)
    (hn : ¬ k < m + 1 ∨ ¬ (k < t.size ∧ lo ≤ Dec.bt t k ∧ Dec.bt t k ≤ hi)) : (k : Int) = (o.2.1 : Int) ∧ ((k : Int) == (m : Int) + 1) = o.2.2 := by
  by_cases c : k < m + 1
  · have hn' : ¬ (k < t.size ∧ lo ≤ Dec.bt t k ∧ Dec.bt t k ≤ hi) := by rcases hn with h | h; exact absurd c h; exact h
    rw [show m + 1 - k = (m - k) + 1 by omega, Dec.goes_no hn'] at h
    subst h
    refine ⟨rfl, ?_⟩
    simp; omega
  · have : k = m + 1 := by omega
    subst this
    rw [show m + 1 - (m + 1) = 0 by omega] at h
    subst h
    simp [Dec.goes]

theorem front_step (t : ByteArray) (m k lo hi r : Nat) (o : Int × Nat × Bool) (h : Dec.goes t m (m + 1 - k) k lo hi r = o) (hk : k < m + 1)
    (hy : k < t.size ∧ lo ≤ Dec.bt t k ∧ Dec.bt t k ≤ hi) : Dec.goes t m (m + 1 - (k + 1)) (k + 1) 128 191 (r * 64 + Dec.bt t k % 64) = o := by
  rw [show m + 1 - k = (m + 1 - (k + 1)) + 1 by omega, Dec.goes_yes _ rfl hy] at h
  exact h

set_option maxRecDepth 100000 in
set_option maxHeartbeats 1000000 in
theorem front_any (t : ByteArray) (h0 : 0 < t.size) (ht : t.size ≤ maxLen) (w : World) :
    Calls Tryd.prog 119 #[.string t] w fun e w' => e = .returned (.tuple #[.int .i64 ((Dec.one t).2.1 : Int), .bool (Dec.one t).2.2]) ∧ w' = w := by
  unfold maxLen at ht
  have hb0 : (t[0]'h0).toNat < 256 := (t[0]'h0).toNat_lt
  have e0 := Dec.bt_get t 0 h0
  rcases Dec.more_cases (t[0]'h0).toNat with hm | hm
  · have ho : Dec.one t = (65533, 1, false) := by unfold Dec.one; rw [← e0, hm]; rfl
    rw [ho]
    clear ho e0
    have F := fun w => form_no _ hb0 hm w
    clear hm
    go_enter Tryd.func119, Tryd.ntmps119
    go_wp2_with (go_at_call 120; refine (F _).mono ?_; rintro e w' ⟨rfl, rfl⟩)
    go_loop [5, 6, 7] (fun _ _ k => k = .int .i64 1) (fun _ _ _ => 0)
    case atStart => rfl
    case round =>
      subst hrel
      go_wp2
      go_ret2
      exact ⟨rfl, rfl⟩
  · obtain ⟨m, hm3, hm⟩ : ∃ m : Nat, m ≤ 3 ∧ Dec.more (t[0]'h0).toNat = (m : Int) := by
      rcases hm with h | h | h | h
      · exact ⟨0, by omega, h⟩
      · exact ⟨1, by omega, h⟩
      · exact ⟨2, by omega, h⟩
      · exact ⟨3, by omega, h⟩
    have HO : Hid (Dec.goes t m m 1 (Dec.lo1 (t[0]'h0).toNat) (Dec.hi1 (t[0]'h0).toNat) (Dec.first (t[0]'h0).toNat m) = Dec.one t) := by
      show _ = _
      unfold Dec.one
      rw [← e0, hm, if_neg (by omega)]
      rfl
    have F := fun w => form_m _ m hb0 hm w
    clear hm e0
    generalize Dec.one t = o at *
    have hl1 : Dec.lo1 (t[0]'h0).toNat < 256 := by unfold Dec.lo1; repeat' split
                                                   all_goals omega
    have hh1 : Dec.hi1 (t[0]'h0).toNat < 256 := by unfold Dec.hi1; repeat' split
                                                   all_goals omega
    go_enter Tryd.func119, Tryd.ntmps119
    go_wp2_with (go_at_call 120; refine (F _).mono ?_; rintro e w' ⟨rfl, rfl⟩)
    go_loop [5, 6, 7] (fun lo hi k => ∃ k' lo' hi' r : Nat, 1 ≤ k' ∧ k' ≤ m + 1 ∧ k' ≤ t.size ∧ lo' < 256 ∧ hi' < 256 ∧ k = .int .i64 k' ∧ lo = .int .u8 lo' ∧ hi = .int .u8 hi' ∧ Hid (Dec.goes t m (m + 1 - k') k' lo' hi' r = o)) (fun _ _ k => m + 1 - (intOf k).toNat)
    case atStart => exact ⟨1, _, _, _, by omega, by omega, by omega, hl1, hh1, rfl, rfl, rfl, HO⟩
    case round =>
      obtain ⟨k, lo, hi, r, hk1, hk2, hk3, hlo, hhi, rfl, rfl, rfl, HG⟩ := hrel
      clear HO F
      by_cases c1 : k < m + 1
      · by_cases c2 : k < t.size
        · have ek := Dec.bt_get t k c2
          have EK : Hid (Dec.bt t k = (t[k]'c2).toNat) := ek.symm
          clear ek
          have hbk : (t[k]'c2).toNat < 256 := (t[k]'c2).toNat_lt
          by_cases c3 : (lo : Int) ≤ ((t[k]'c2).toNat : Int)
          · by_cases c4 : ((t[k]'c2).toNat : Int) ≤ (hi : Int)
            · have HS : Hid _ := front_step t m k lo hi r o HG.out c1 ⟨c2, by rw [EK.out]; omega⟩
              go_wp2
              go_round
              case rel => exact ⟨k + 1, 128, 191, _, by omega, by omega, by omega, by omega, by omega, by go_num, rfl, rfl, HS⟩
              case measure => simp [intOf]; omega
            · have HS := front_end t m k lo hi r o HG.out hk2 (.inr (by rw [EK.out]; omega))
              have HS' : Hid _ := HS
              clear HS
              go_wp2
              go_ret2
              exact ⟨ret_ib HS'.out.1 HS'.out.2, rfl⟩
          · have HS' : Hid _ := front_end t m k lo hi r o HG.out hk2 (.inr (by rw [EK.out]; omega))
            go_wp2
            go_ret2
            exact ⟨ret_ib HS'.out.1 HS'.out.2, rfl⟩
        · have HS' : Hid _ := front_end t m k lo hi r o HG.out hk2 (.inr (by omega))
          go_wp2
          go_ret2
          exact ⟨ret_ib HS'.out.1 HS'.out.2, rfl⟩
      · have HS' : Hid _ := front_end t m k lo hi r o HG.out hk2 (.inl c1)
        go_wp2
        go_ret2
        exact ⟨ret_ib HS'.out.1 HS'.out.2, rfl⟩
end Go.Proofs.YtanfebccenfffaaDoor

namespace Go.Proofs.YtanfebccenfffaaDoor
open Go.RowKit

theorem lead_m (b m : Nat) (hb : b < 256) (h1 : 1 ≤ m) (hm : Dec.more b = (m : Int)) (w : World) :
    Calls Tryd.prog 88 #[.int .u8 (b : Int)] w fun e w' => e = .returned (.tuple #[.int .i64 (m : Int), .int .u8 (Dec.lo1 b : Int), .int .u8 (Dec.hi1 b : Int)]) ∧ w' = w := by
  have h := lead_any b hb w
  have e1 : Dec.lo0 b = Dec.lo1 b := by unfold Dec.lo0; rw [hm, if_neg (by omega)]
  have e2 : Dec.hi0 b = Dec.hi1 b := by unfold Dec.hi0; rw [hm, if_neg (by omega)]
  rw [hm, e1, e2] at h
  exact h

theorem lead_0 (b : Nat) (hb : b < 256) (c : Int) (hc : c ≤ 0) (hm : Dec.more b = c) (w : World) :
    Calls Tryd.prog 88 #[.int .u8 (b : Int)] w fun e w' => e = .returned (.tuple #[.int .i64 c, .int .u8 0, .int .u8 0]) ∧ w' = w := by
  have h := lead_any b hb w
  have e1 : Dec.lo0 b = 0 := by unfold Dec.lo0; rw [hm, if_pos (by omega)]
  have e2 : Dec.hi0 b = 0 := by unfold Dec.hi0; rw [hm, if_pos (by omega)]
  rw [hm, e1, e2] at h
  exact h

theorem ret_iib {a a' c c' : Int} {b b' : Bool} (h1 : a = a') (h0 : c = c') (h2 : b = b') :
    Ending.returned (.tuple #[.int .i64 a, .int .i64 c, .bool b]) = .returned (.tuple #[.int .i64 a', .int .i64 c', .bool b']) := by rw [h1, h2, h0]

theorem wraps40 (n : Int) (h0 : 0 ≤ n) (h1 : n < 2 ^ 40) : IntKind.i64.wrap n = n := by
  have e : (2 : Int) ^ 40 = 1099511627776 := by decide
  rw [e] at h1; rw [IntKind.wrap_i64]; omega

theorem and_low (x i : Nat) (hi : i ≤ 6) (hx : x < 256) : bits .and .i64 (x : Int) (2 ^ i - 1) = ((x % 2 ^ i : Nat) : Int) := by
  have e : (2 : Int) ^ 40 = 1099511627776 := by decide
  rw [bits_mask .i64 40 (by decide) wraps40 i (by omega) (x : Int) (by omega) (by rw [e]; omega)]
  simp

theorem first_bits (x m : Nat) (hx : x < 256) (h1 : 1 ≤ m) (h3 : m ≤ 3) : bits .and .i64 (x : Int) (63 / 2 ^ m) = (Dec.first x m : Int) := by
  match m, h1, h3 with
  | 1, _, _ => exact and_low x 5 (by omega) hx
  | 2, _, _ => exact and_low x 4 (by omega) hx
  | 3, _, _ => exact and_low x 3 (by omega) hx

theorem join6 (r x : Nat) (hr : r < 262144) (hx : x < 256) : bits .or .i64 ((r : Int) * 64) (bits .and .i64 (x : Int) 63) = ((r * 64 + x % 64 : Nat) : Int) := by
  have e : (2 : Int) ^ 40 = 1099511627776 := by decide
  have e6 : (2 : Int) ^ 6 = 64 := by decide
  have h := and_low x 6 (by omega) hx
  have h63 : ((2 : Int) ^ 6 - 1) = 63 := by decide
  have h64 : 2 ^ 6 = 64 := by decide
  rw [h63, h64] at h
  rw [h, bits_join .i64 40 (by decide) wraps40 6 _ _ (by omega) (by rw [e6]; omega) (by rw [e]; omega) (by omega) (by rw [e6]; omega) (by rw [e]; omega)]
  omega

theorem pow_bd (k : Nat) (h : k ≤ 3) : 64 ^ k ≤ 262144 := by
  match k, h with
  | 0, _ => decide
  | 1, _ => decide
  | 2, _ => decide
  | 3, _ => decide

theorem first_lt (x m : Nat) (h1 : 1 ≤ m) (h3 : m ≤ 3) : Dec.first x m < 64 := by
  match m, h1, h3 with
  | 1, _, _ => show x % 32 < 64; omega
  | 2, _, _ => show x % 16 < 64; omega
  | 3, _, _ => show x % 8 < 64; omega

theorem one_end (t : ByteArray) (m k lo hi r : Nat) (o : Int × Nat × Bool) (h : Dec.goes t m (m + 1 - k) k lo hi r = o)
    (hk : k = m + 1) : (r : Int) = o.1 ∧ ((m : Int) + 1) = (o.2.1 : Int) ∧ true = o.2.2 := by
  subst hk
  rw [show m + 1 - (m + 1) = 0 by omega] at h
  subst h
  simp [Dec.goes]

theorem one_bad (t : ByteArray) (m k lo hi r : Nat) (o : Int × Nat × Bool) (h : Dec.goes t m (m + 1 - k) k lo hi r = o) (hk : k < m + 1)
    (hn : ¬ (k < t.size ∧ lo ≤ Dec.bt t k ∧ Dec.bt t k ≤ hi)) : (65533 : Int) = o.1 ∧ (k : Int) = (o.2.1 : Int) ∧ false = o.2.2 := by
  rw [show m + 1 - k = (m - k) + 1 by omega, Dec.goes_no hn] at h
  subst h
  exact ⟨rfl, rfl, rfl⟩

set_option maxRecDepth 100000 in
set_option maxHeartbeats 2000000 in
theorem one_any (t : ByteArray) (h0 : 0 < t.size) (ht : t.size ≤ maxLen) (w : World) :
    Calls Tryd.prog 76 #[.string t] w fun e w' => e = .returned (.tuple #[.int .i64 (Dec.one t).1, .int .i64 ((Dec.one t).2.1 : Int), .bool (Dec.one t).2.2]) ∧ w' = w := by
  unfold maxLen at ht
  have hb0 : (t[0]'h0).toNat < 256 := (t[0]'h0).toNat_lt
  have e0 := Dec.bt_get t 0 h0
  rcases Dec.more_cases (t[0]'h0).toNat with hm | hm | hm
  · have ho : Dec.one t = (65533, 1, false) := by unfold Dec.one; rw [← e0, hm]; rfl
    rw [ho]
    clear ho e0
    have F := fun w => lead_0 _ hb0 (-1) (by omega) hm w
    clear hm
    go_enter Tryd.func76, Tryd.ntmps76
    go_wp2_with (go_at_call 88; refine (F _).mono ?_; rintro e w' ⟨rfl, rfl⟩)
    go_ret3
    exact ⟨rfl, rfl⟩
  · have ho : Dec.one t = (((t[0]'h0).toNat : Int), 1, true) := by unfold Dec.one; rw [← e0, hm]; rfl
    rw [ho]
    clear ho e0
    have F := fun w => lead_0 _ hb0 0 (by omega) hm w
    clear hm
    go_enter Tryd.func76, Tryd.ntmps76
    go_wp2_with (go_at_call 88; refine (F _).mono ?_; rintro e w' ⟨rfl, rfl⟩)
    go_ret3
    exact ⟨rfl, rfl⟩
  · obtain ⟨m, hm1, hm3, hm⟩ : ∃ m : Nat, 1 ≤ m ∧ m ≤ 3 ∧ Dec.more (t[0]'h0).toNat = (m : Int) := by
      rcases hm with h | h | h
      · exact ⟨1, by omega, by omega, h⟩
      · exact ⟨2, by omega, by omega, h⟩
      · exact ⟨3, by omega, by omega, h⟩
    have HO : Hid (Dec.goes t m m 1 (Dec.lo1 (t[0]'h0).toNat) (Dec.hi1 (t[0]'h0).toNat) (Dec.first (t[0]'h0).toNat m) = Dec.one t) := by
      show _ = _
      unfold Dec.one
      rw [← e0, hm, if_neg (by omega)]
      rfl
    have F := fun w => lead_m _ m hb0 hm1 hm w
    clear hm e0
    generalize Dec.one t = o at *
    have hl1 : Dec.lo1 (t[0]'h0).toNat < 256 := by unfold Dec.lo1; repeat' split
                                                   all_goals omega
    have hh1 : Dec.hi1 (t[0]'h0).toNat < 256 := by unfold Dec.hi1; repeat' split
                                                   all_goals omega
    go_enter Tryd.func76, Tryd.ntmps76
    go_wp2_with (go_at_call 88; refine (F _).mono ?_; rintro e w' ⟨rfl, rfl⟩)
    have HF : Hid _ := first_bits (t[0]'h0).toNat m hb0 hm1 hm3
    have hfl := first_lt (t[0]'h0).toNat m hm1 hm3
    go_loop [6, 7, 8, 9] (fun lo hi a k => ∃ k' lo' hi' r : Nat, 1 ≤ k' ∧ k' ≤ m + 1 ∧ k' ≤ t.size ∧ lo' < 256 ∧ hi' < 256 ∧ r < 64 ^ k' ∧ k = .int .i64 k' ∧ lo = .int .u8 lo' ∧ hi = .int .u8 hi' ∧ a = .int .i64 r ∧ Hid (Dec.goes t m (m + 1 - k') k' lo' hi' r = o)) (fun _ _ _ k => m + 1 - (intOf k).toNat)
    case atStart => exact ⟨1, _, _, _, by omega, by omega, by omega, hl1, hh1, by omega, rfl, rfl, rfl, by rw [HF.out], HO⟩
    case round =>
      obtain ⟨k, lo, hi, r, hk1, hk2, hk3, hlo, hhi, hr, rfl, rfl, rfl, rfl, HG⟩ := hrel
      clear HO F HF hfl
      by_cases c1 : k < m + 1
      · have hr2 : r < 262144 := Nat.lt_of_lt_of_le hr (pow_bd k (by omega))
        by_cases c2 : k < t.size
        · have EK : Hid (Dec.bt t k = (t[k]'c2).toNat) := (Dec.bt_get t k c2).symm
          have hbk : (t[k]'c2).toNat < 256 := (t[k]'c2).toNat_lt
          have hke : ((k : Int) == (t.size : Int)) = false := by simp; omega
          by_cases c3 : (lo : Int) ≤ ((t[k]'c2).toNat : Int)
          · by_cases c4 : ((t[k]'c2).toNat : Int) ≤ (hi : Int)
            · have HS : Hid _ := front_step t m k lo hi r o HG.out c1 ⟨c2, by rw [EK.out]; omega⟩
              have HJ : Hid _ := join6 r (t[k]'c2).toNat hr2 hbk
              have HR : Hid (r < 64 ^ k) := hr
              clear hr
              go_wp2
              go_round
              case rel =>
                (repeat apply Exists.intro)
                refine ⟨?_, rfl, rfl, rfl, rfl, rfl, rfl, rfl⟩
                exact ⟨k + 1, by omega, by omega, by omega, 128, by omega, 191, by omega, r * 64 + Dec.bt t k % 64, by have := HR.out; rw [Nat.pow_succ]; omega, by go_num, rfl, rfl, by rw [EK.out, HJ.out], HS⟩
              case measure => simp [intOf]; omega
            · have HS : Hid _ := one_bad t m k lo hi r o HG.out c1 (by rw [EK.out]; omega)
              go_wp2
              go_ret3
              exact ⟨ret_iib HS.out.1 HS.out.2.1 HS.out.2.2, rfl⟩
          · have HS : Hid _ := one_bad t m k lo hi r o HG.out c1 (by rw [EK.out]; omega)
            go_wp2
            go_ret3
            exact ⟨ret_iib HS.out.1 HS.out.2.1 HS.out.2.2, rfl⟩
        · have HS : Hid _ := one_bad t m k lo hi r o HG.out c1 (by omega)
          have hke : ((k : Int) == (t.size : Int)) = true := by simp; omega
          go_wp2
          go_ret3
          exact ⟨ret_iib HS.out.1 HS.out.2.1 HS.out.2.2, rfl⟩
      · have HS : Hid _ := one_end t m k lo hi r o HG.out (by omega)
        go_wp2
        go_ret3
        exact ⟨ret_iib HS.out.1 HS.out.2.1 HS.out.2.2, rfl⟩
end Go.Proofs.YtanfebccenfffaaDoor

namespace Go.Proofs.YtanfebccenfffaaDoor
open Go.RowKit

def strLen : Value → Nat
  | .string t => t.size
  | _ => 0

def DecRel (s : ByteArray) (w : World) (sv v b : Value) (wr : World) : Prop :=
  ∃ (t : ByteArray) (f bad : Nat) (acc : List Int), sv = .string t ∧ b = .int .i64 bad ∧ Ints wr w.heap.size v acc ∧ Below w.heap.size w wr ∧
    acc ++ (Dec.decT f t).1 = (Dec.decT s.size s).1 ∧ bad + (Dec.decT f t).2 = (Dec.decT s.size s).2 ∧ t.size ≤ f ∧ acc.length + t.size ≤ s.size ∧ bad + t.size ≤ s.size

theorem decT_step {t : ByteArray} {r : Int} {n : Nat} {ok : Bool} (h0 : 0 < t.size) (ho : Dec.one t = (r, n, ok)) (f : Nat) :
    Dec.decT (f + 1) t = (r :: (Dec.decT f (t.extract n t.size)).1, (Dec.decT f (t.extract n t.size)).2 + (if ok then 0 else 1)) := by
  simp only [Dec.decT, if_pos h0, ho]

theorem ret_v {v : Value} {a a' : Int} (h : a = a') : Ending.returned (.tuple #[v, .int .i64 a]) = .returned (.tuple #[v, .int .i64 a']) := by rw [h]

set_option maxRecDepth 100000 in
set_option maxHeartbeats 2000000 in
theorem l1Decode_any (s : ByteArray) (w : World) (hs : s.size ≤ 1073741824) :
    Calls Tryd.prog 46 #[.string s] w fun e w' => ∃ v, e = .returned (.tuple #[v, .int .i64 ((Dec.decT s.size s).2 : Int)]) ∧ Ints w' w.heap.size v (Dec.decT s.size s).1 ∧ Below w.heap.size w w' := by
  obtain ⟨i0, hi, hz0, hz1, hz2⟩ := info_parts info_int
  go_enter Tryd.func46, Tryd.ntmps46
  go_wp2
  go_loopw [0, 4, 5] (fun sv v b wr => DecRel s w sv v b wr) (fun sv _ _ _ => strLen sv)
  case atStart => exact ⟨s, s.size, 0, [], rfl, rfl, World.ownsRow_nil _ _ _ _, Below.refl _ _, by simp, by simp, Nat.le_refl _, by simp, by simp⟩
  case round =>
    obtain ⟨t, f, bad, acc, rfl, rfl, hown, hbw, hA, hB, hf, hal, hbl⟩ := hrel
    have HA : Hid _ := hA
    have HB : Hid _ := hB
    clear hA hB
    unfold Ints at hown
    by_cases hp : 0 < t.size
    · obtain ⟨r, n, ok, HO⟩ : ∃ r n ok, Hid (Dec.one t = (r, n, ok)) := ⟨_, _, _, rfl⟩
      have hn := Dec.one_le t hp
      rw [HO.out] at hn
      have hn1 : 1 ≤ n := hn.1
      have hn2 : n ≤ t.size := hn.2
      clear hn
      have O := fun w => one_any t hp (by unfold maxLen; omega) w
      rw [HO.out] at O
      obtain ⟨f', rfl⟩ : ∃ f', f = f' + 1 := ⟨f - 1, by omega⟩
      have hds := decT_step hp HO.out f'
      have HA' : Hid _ := HA.out
      have HB' : Hid _ := HB.out
      unfold Hid at HA' HB'
      rw [hds] at HA' HB'
      have HA2 : Hid _ := HA'
      have HB2 : Hid _ := HB'
      clear HA' HB' hds HA HB
      have hsz := hbw.size
      have hex := Dec.size_extract t n
      cases ok
      all_goals
        go_wp2_with (first
          | (go_at_call 76; refine (O _).mono ?_; rintro e w' ⟨rfl, rfl⟩)
          | (at_builtin; refine wpList_append_own _ rfl _ _ 23 rfl w.heap.size 3 i0 (.int .i64 0) 1 8 Tryd.underlying23 hi hz0 hz1 hz2 rfl (by decide) _ _ _ rfl (hown.alloc _) ⟨_, 0, none⟩ 1 1 [.int .i64 r] rfl rfl (cell_one_new _ _ _) (fun x hx => by simp at hx; subst hx; rfl) (by unfold maxLen; omega) (by omega) (by simp; omega) ?_; intro v' w3 hown' hgrow3 _))
      · have hb3 := Below.grown (hbw.alloc (by omega) _) hgrow3 (by simp; omega) (fun j hj => (hown.lt _ hj).1)
        have HA3 := HA2.out
        have HB3 : bad + ((Dec.decT f' (t.extract n t.size)).2 + 1) = _ := HB2.out
        exact ⟨⟨t.extract n t.size, f', bad + 1, acc ++ [r], rfl, by go_num, Ints.snoc hown', hb3, by simpa using HA3, by omega, by omega, by simp; omega, by omega⟩, by simp only [strLen]; omega⟩
      · have hb3 := Below.grown (hbw.alloc (by omega) _) hgrow3 (by simp; omega) (fun j hj => (hown.lt _ hj).1)
        have HA3 := HA2.out
        have HB3 : bad + ((Dec.decT f' (t.extract n t.size)).2 + 0) = _ := HB2.out
        exact ⟨⟨t.extract n t.size, f', bad, acc ++ [r], rfl, by go_num, Ints.snoc hown', hb3, by simpa using HA3, by omega, by omega, by simp; omega, by omega⟩, by simp only [strLen]; omega⟩
    · have ht0 : t.size = 0 := by omega
      have HA2 := HA.out
      have HB2 := HB.out
      rw [Dec.decT_end _ _ ht0] at HA2 HB2
      have HA3 : Hid _ := HA2
      have HB3 : Hid _ := HB2
      clear HA2 HB2 HA HB
      go_wp2
      go_ret2
      have HA4 := HA3.out
      have HB4 := HB3.out
      simp only [List.append_nil, Nat.add_zero] at HA4 HB4
      refine ⟨_, ret_v (by rw [HB4]), ?_, hbw⟩
      rw [← HA4]
      exact hown
end Go.Proofs.YtanfebccenfffaaDoor

namespace Go.Proofs.YtanfebccenfffaaDoor
open Go.RowKit

def RdRel (w : World) (ws : List ByteArray) (vw : Value) (br bl : Nat) (ans : Except Int RS) (rv iv : Value) (wr : World) : Prop :=
  ∃ (k : Nat) (st : RS) (vE : Value), k ≤ ws.length ∧ iv = .int .i64 k ∧ rv = .bool st.reset ∧ readW (ws.drop k) st = ans ∧ RInv st ∧ StM w wr ws vw br bl st vE

theorem bsize (w : World) (o : Obj) : (w.alloc o).heap.size = w.heap.size + 1 := by simp

def zeroRules (c : Int) : Value := .tuple #[.agg #[.slice none 0 0, .bool false, .int .i64 0], .int .i64 c]

theorem below_res3 {w wr : World} (h : Below w.heap.size w wr) (x y z : Value) : Below w.heap.size w (((wr.setCell ⟨w.heap.size, 0, none⟩ x).setCell ⟨w.heap.size, 1, none⟩ y).setCell ⟨w.heap.size, 2, none⟩ z) :=
  ((h.setCell (Nat.le_refl _) _).setCell (Nat.le_refl _) _).setCell (Nat.le_refl _) _

/-- What the contract says of an ending. -/
def RdPost (w : World) (a : RA) (e : Ending) (w' : World) : Prop :=
  ∃ vE, e = .returned (.tuple #[.agg #[vE, .bool a.sh, .int .i64 a.lv], .int .i64 a.code]) ∧ Ents w' w.heap.size vE a.es ∧ Below w.heap.size w w'

theorem rdPost_err {w wr : World} {ans : Except Int RS} {c : Int} (h : ans = .error c) (hb : Below w.heap.size w wr) : RdPost w (raOf ans) (.returned (zeroRules c)) wr := by
  subst h
  exact ⟨_, rfl, Ents.nil _ _, hb⟩

set_option maxRecDepth 100000 in
set_option maxHeartbeats 1000000 in
theorem read_long (s : ByteArray) (w : World) (h : 300 < s.size) (hs : s.size ≤ 1073741824) : Calls Tryd.prog 19 #[.string s] w fun e w' => RdPost w (readA s) e w' := by
  have h2 : (300 : Int) < (s.size : Int) := by omega
  have hA : readA s = ⟨[], false, 0, 1⟩ := if_pos h
  rw [hA]
  go_enter Tryd.func19, Tryd.ntmps19
  go_wp2
  refine bodyPost_ret (v := zeroRules 1) ?_ rfl ⟨_, rfl, Ents.nil _ _, (Below.refl _ _).alloc (Nat.le_refl _) _⟩
  rw [results_cell_tmp rfl]
  unfold zeroRules
  go_simp

set_option maxRecDepth 100000 in
set_option maxHeartbeats 1000000 in
theorem plain_any (w : World) : Calls Tryd.prog 45 #[] w fun e w' => e = .returned (.agg #[.slice none 0 0, .bool false, .int .i64 3]) ∧ Below w.heap.size w w' := by
  go_enter Tryd.func45, Tryd.ntmps45
  go_wp2
  refine bodyPost_ret (v := .agg #[.slice none 0 0, .bool false, .int .i64 3]) ?_ rfl ⟨rfl, (Below.refl _ _).alloc (Nat.le_refl _) _⟩
  rw [results_cell1 rfl]
  go_simp

theorem rb_of {u : World} {b2 br bl : Nat} {vE : Value} {sh : Bool} {lv : Int} {e : El} (hl : b2 < br ∧ br < bl) (h2 : u.heap[b2]? = some (.cells #[.slice none 0 0, .bool false, .int .i64 0] 39))
    (hr : u.heap[br]? = some (.cells #[vE, .bool sh, .int .i64 lv] 39)) (hll : u.heap[bl]? = some (.cells #[.int .i64 e.first, .int .i64 e.second, .int .i64 e.third, .bool e.varies] 44)) : RB u b2 br bl vE sh lv e :=
  ⟨⟨hl.1, hl.2, (Array.getElem?_eq_some_iff.1 hll).1⟩, ⟨cell_of_row _ _ 0 _ _ _ h2, cell_of_row _ _ 1 _ _ _ h2, cell_of_row _ _ 2 _ _ _ h2⟩, ⟨cell_of_row _ _ 0 _ _ _ hr, cell_of_row _ _ 1 _ _ _ hr, cell_of_row _ _ 2 _ _ _ hr⟩,
    ⟨cell_of_row _ _ 0 _ _ _ hll, cell_of_row _ _ 1 _ _ _ hll, cell_of_row _ _ 2 _ _ _ hll, cell_of_row _ _ 3 _ _ _ hll⟩, fun j => by simp [World.frozen?, h2], fun j => by simp [World.frozen?, hr], fun j => by simp [World.frozen?, hll]⟩

theorem rb_new {w2 : World} {b2 : Nat} (h : w2.heap[b2]? = some (.cells #[.slice none 0 0, .bool false, .int .i64 0] 39)) :
    RB ((w2.alloc (.cells #[.slice none 0 0, .bool false, .int .i64 3] 39)).alloc (.cells #[.int .i64 0, .int .i64 0, .int .i64 0, .bool false] 44)) b2 w2.heap.size (w2.heap.size + 1) (.slice none 0 0) false 3 ⟨0, 0, 0, false⟩ := by
  have hb := ((Below.refl w2.heap.size w2).alloc (Nat.le_refl _) (.cells #[.slice none 0 0, .bool false, .int .i64 3] 39)).alloc (by simp) (.cells #[.int .i64 0, .int .i64 0, .int .i64 0, .bool false] 44)
  have hlt := (Array.getElem?_eq_some_iff.1 h).1
  refine rb_of ⟨hlt, Nat.lt_succ_self _⟩ ?_ ?_ (heap_alloc2_new w2 _ _)
  · rw [hb.block _ hlt]; exact h
  · rw [Below.heap_alloc _ _ _ (by simp)]; exact heap_alloc_new w2 _

theorem readW_nil (st : RS) : readW [] st = .ok st := by unfold readW; rfl

theorem drop_at {ws : List ByteArray} {k : Nat} {x : ByteArray} (h : ws[k]? = some x) : ws.drop k = x :: ws.drop (k + 1) := by
  obtain ⟨hk, rfl⟩ := List.getElem?_eq_some_iff.1 h
  exact List.drop_eq_getElem_cons hk

theorem readW_shift {x : ByteArray} {ws : List ByteArray} {st : RS} (h : (x.toList == wShift) = true) : readW (x :: ws) st = readW ws { st with sh := true } := by
  rw [readW.eq_def]
  simp only
  rw [if_pos h]

theorem readW_lev0 {x : ByteArray} {st : RS} (h1 : (x.toList == wShift) = false) (h2 : (x.toList == wLevels) = true) : readW [x] st = .error 2 := by
  rw [readW.eq_def]
  simp only
  rw [if_neg (by simp [h1]), if_pos h2]

theorem readW_levn {x y : ByteArray} {ws : List ByteArray} {st : RS} (h1 : (x.toList == wShift) = false) (h2 : (x.toList == wLevels) = true) (h3 : levN y = none) : readW (x :: y :: ws) st = .error 2 := by
  rw [readW.eq_def]
  simp only
  rw [if_neg (by simp [h1]), if_pos h2, h3]

theorem readW_levs {x y : ByteArray} {ws : List ByteArray} {st : RS} {n : Int} (h1 : (x.toList == wShift) = false) (h2 : (x.toList == wLevels) = true) (h3 : levN y = some n) : readW (x :: y :: ws) st = readW ws { st with lv := n } := by
  rw [readW.eq_def]
  simp only
  rw [if_neg (by simp [h1]), if_pos h2, h3]

theorem readW_none {x : ByteArray} {ws : List ByteArray} {st : RS} (h1 : (x.toList == wShift) = false) (h2 : (x.toList == wLevels) = false) (h3 : levOf x = none) : readW (x :: ws) st = .error 2 := by
  rw [readW.eq_def]
  simp only
  rw [if_neg (by simp [h1]), if_neg (by simp [h2]), h3]

theorem readW_one0 {x : ByteArray} {st : RS} {lev : Nat} (h1 : (x.toList == wShift) = false) (h2 : (x.toList == wLevels) = false) (h3 : levOf x = some lev) : readW [x] st = .error 2 := by
  rw [readW.eq_def]
  simp only
  rw [if_neg (by simp [h1]), if_neg (by simp [h2]), h3]

theorem readW_onel {x y : ByteArray} {ws : List ByteArray} {st : RS} {lev : Nat} (h1 : (x.toList == wShift) = false) (h2 : (x.toList == wLevels) = false) (h3 : levOf x = some lev) (h4 : 200 < y.size) : readW (x :: y :: ws) st = .error 2 := by
  rw [readW.eq_def]
  simp only
  rw [if_neg (by simp [h1]), if_neg (by simp [h2]), h3]
  simp only
  rw [if_pos h4]

theorem readW_onee {x y : ByteArray} {ws : List ByteArray} {st : RS} {lev : Nat} {c : Int} (h1 : (x.toList == wShift) = false) (h2 : (x.toList == wLevels) = false) (h3 : levOf x = some lev) (h4 : ¬ 200 < y.size) (h5 : putIn st lev (nD (Dec.decT y.size y).1) = .error c) : readW (x :: y :: ws) st = .error c := by
  rw [readW.eq_def]
  simp only
  rw [if_neg (by simp [h1]), if_neg (by simp [h2]), h3]
  simp only
  rw [if_neg h4, h5]

theorem readW_onek {x y : ByteArray} {ws : List ByteArray} {st st' : RS} {lev : Nat} (h1 : (x.toList == wShift) = false) (h2 : (x.toList == wLevels) = false) (h3 : levOf x = some lev) (h4 : ¬ 200 < y.size) (h5 : putIn st lev (nD (Dec.decT y.size y).1) = .ok st') : readW (x :: y :: ws) st = readW ws st' := by
  rw [readW.eq_def]
  simp only
  rw [if_neg (by simp [h1]), if_neg (by simp [h2]), h3]
  simp only
  rw [if_neg h4, h5]

theorem levOf_cases {x : ByteArray} {lev : Nat} (h : levOf x = some lev) : (lev = 0 ∧ (x.toList == [38]) = true) ∨ (lev = 1 ∧ (x.toList == [38]) = false ∧ (x.toList == [60]) = true) ∨ (lev = 2 ∧ (x.toList == [38]) = false ∧ (x.toList == [60]) = false ∧ (x.toList == [60, 60]) = true) ∨
    (lev = 3 ∧ (x.toList == [38]) = false ∧ (x.toList == [60]) = false ∧ (x.toList == [60, 60]) = false ∧ (x.toList == [60, 60, 60]) = true) := by
  unfold levOf at h
  cases d0 : (x.toList == [38]) <;> rw [d0] at h
  · cases d1 : (x.toList == [60]) <;> rw [d1] at h
    · cases d2 : (x.toList == [60, 60]) <;> rw [d2] at h
      · cases d3 : (x.toList == [60, 60, 60]) <;> rw [d3] at h
        · simp at h
        · simp at h; subst h; simp
      · simp at h; subst h; simp
    · simp at h; subst h; simp
  · simp at h; subst h; simp

theorem own_above {u : World} {B b : Nat} {v : Value} {l : List Int} (h : Ints u B v l) (hb : b + 1 ≤ B) : v.ownBlock = none ∨ v.ownBlock ≠ some b := by
  cases e : v.ownBlock with
  | none => exact .inl rfl
  | some g =>
    refine .inr fun c => ?_
    have := (World.ownsRow.lt h g e).1
    cases c
    omega

theorem drop_end {ws : List ByteArray} {k : Nat} (h : ws.length ≤ k) : ws.drop k = [] := List.drop_eq_nil_of_le h

theorem levN_yes {y : ByteArray} (h : y.size = 2 ∧ 49 ≤ Dec.bt y 0 ∧ Dec.bt y 0 ≤ 52 ∧ Dec.bt y 1 = 93) : levN y = some ((Dec.bt y 0 : Int) - 48) := if_pos h
theorem levN_no {y : ByteArray} (h : ¬ (y.size = 2 ∧ 49 ≤ Dec.bt y 0 ∧ Dec.bt y 0 ≤ 52 ∧ Dec.bt y 1 = 93)) : levN y = none := if_neg h

theorem putIn_bad {st : RS} {lev : Nat} {l : List Int} (h : runesOk l = false) : putIn st lev l = .error 2 := if_pos h
theorem putIn_reset0 {st : RS} {l : List Int} (h : runesOk l = true) (h2 : elemE st.es l = none) : putIn st 0 l = .error 3 := by
  unfold putIn
  rw [if_neg (by simp [h]), if_pos rfl, h2]
theorem putIn_resetv {st : RS} {l : List Int} {e : El} (h : runesOk l = true) (h2 : elemE st.es l = some e) (h3 : e.varies = true) : putIn st 0 l = .error 3 := by
  unfold putIn
  rw [if_neg (by simp [h]), if_pos rfl, h2]
  simp only
  rw [if_pos h3]
theorem putIn_resetk {st : RS} {l : List Int} {e : El} (h : runesOk l = true) (h2 : elemE st.es l = some e) (h3 : e.varies = false) : putIn st 0 l = .ok { st with last := e, reset := true } := by
  unfold putIn
  rw [if_neg (by simp [h]), if_pos rfl, h2]
  simp only
  rw [if_neg (by simp [h3])]
theorem putIn_first {st : RS} {lev : Nat} {l : List Int} (h : runesOk l = true) (hl : lev ≠ 0) (hr : st.reset = false) : putIn st lev l = .error 3 := by
  unfold putIn
  rw [if_neg (by simp [h]), if_neg hl, if_pos hr]
theorem putIn_twice {st : RS} {lev : Nat} {l : List Int} (h : runesOk l = true) (hl : lev ≠ 0) (hr : st.reset = true) (ha : 0 ≤ atE st.es l) : putIn st lev l = .error 4 := by
  unfold putIn
  rw [if_neg (by simp [h]), if_neg hl, if_neg (by simp [hr]), if_pos ha]
theorem putIn_put {st : RS} {lev : Nat} {l : List Int} (h : runesOk l = true) (hl : lev ≠ 0) (hr : st.reset = true) (ha : ¬ 0 ≤ atE st.es l) : putIn st lev l = if rulesOk (st.es ++ [⟨l, behindE st.es st.last lev⟩]) st.lv = true then .ok { st with es := st.es ++ [⟨l, behindE st.es st.last lev⟩], last := behindE st.es st.last lev } else .error 5 := by
  unfold putIn
  rw [if_neg (by simp [h]), if_neg hl, if_neg (by simp [hr]), if_neg ha]

set_option maxRecDepth 100000 in
set_option maxHeartbeats 20000000 in
theorem read_short (s : ByteArray) (w : World) (hs : s.size ≤ 300) : Calls Tryd.prog 19 #[.string s] w fun e w' => RdPost w (readA s) e w' := by
  have h2 : ¬ (300 : Int) < (s.size : Int) := by omega
  have hA : readA s = raOf (readW (words s) rs0) := if_neg (by omega)
  rw [hA]
  clear hA
  have W := fun w => words_any s w (by omega)
  have hwl : (words s).length ≤ 301 := Nat.le_trans (wst_bound s (s.size + 1)).1 (by omega)
  generalize words s = ws at *
  obtain ⟨ans, HANS⟩ : ∃ ans, Hid (readW ws rs0 = ans) := ⟨_, rfl⟩
  rw [HANS.out]
  go_enter Tryd.func19, Tryd.ntmps19
  go_wp2_with fail
  refine (W _).mono ?_
  rintro e w1 ⟨vw, rfl, hS1, b1⟩
  have bb1 := ((Below.refl w.heap.size w).alloc (Nat.le_refl _) (.cells #[.slice none 0 0, .bool false, .int .i64 0] 39)).trans (b1.mono (by simp))
  have P := fun w => plain_any w
  have hbb : Hid (Below _ _ _) := bb1
  have HS1 : Hid (Strs _ _ _ _) := hS1
  have h20 : Hid (w1.heap[w.heap.size]? = some (.cells #[.slice none 0 0, .bool false, .int .i64 0] 39)) := by
    show _ = _
    rw [b1.block _ (by simp)]; exact heap_alloc_new w _
  clear bb1 b1 hS1 W
  go_wp2_with fail
  refine (P _).mono ?_
  rintro e w2 ⟨rfl, b2⟩
  clear P
  have hlt2 := (Array.getElem?_eq_some_iff.1 h20.out).1
  have hM0 : StM w ((w2.alloc (.cells #[.slice none 0 0, .bool false, .int .i64 3] 39)).alloc (.cells #[.int .i64 0, .int .i64 0, .int .i64 0, .bool false] 44)) ws vw w2.heap.size (w2.heap.size + 1) rs0 (.slice none 0 0) := by
    have hb2 := hbb.out.trans (b2.mono hbb.out.size)
    have hSb := HS1.out.below b2
    rw [bsize] at hSb
    exact ⟨rb_new (by rw [b2.block _ hlt2]; exact h20.out), Ents.nil _ _, hSb.below (((Below.refl w2.heap.size w2).alloc (Nat.le_refl _) _).alloc (by simp) _), fun g e => (World.ownsRow.lt hSb g e).2, (hb2.alloc hb2.size _).alloc (hb2.alloc hb2.size _).size _⟩
  have HM0 : Hid (StM _ _ _ _ _ _ _ _) := hM0
  clear hbb b2 h20 hlt2 HS1 hM0
  obtain ⟨aw, cw, rfl⟩ : ∃ aw cw, vw = .slice aw ws.length cw := by
    rcases HM0.out.sr.form with ⟨rfl, rfl⟩ | ⟨g, cap, rfl, _, _⟩
    · exact ⟨_, _, rfl⟩
    · exact ⟨_, _, rfl⟩
  go_wp2_with fail
  go_loopw [7, 8] (fun rv iv wr => RdRel w ws (.slice aw ws.length cw) w2.heap.size (w2.heap.size + 1) ans rv iv wr) (fun _ iv _ => ws.length - (intOf iv).toNat)
  case atStart => exact ⟨0, rs0, _, Nat.zero_le _, rfl, rfl, by rw [List.drop_zero]; exact HANS.out, rinv0, HM0.out⟩
  case round =>
    clear HM0 HANS
    obtain ⟨k, st, vE, hk, rfl, rfl, hR, hI, hM⟩ := hrel
    have HR : Hid (readW (ws.drop k) st = ans) := hR
    have HI : Hid (RInv st) := hI
    have HM : Hid (StM w wr ws _ _ _ st vE) := hM
    clear hR hI hM
    obtain ⟨ae, ce, rfl⟩ : ∃ a c, vE = .slice a st.es.length c := by
      rcases HM.out.en.form with ⟨h, h'⟩ | ⟨g, cap, rfl, _, _, _, _⟩
      · exact ⟨none, 0, by rw [h, h']; rfl⟩
      · exact ⟨_, _, rfl⟩
    have hbe := HM.out.be
    obtain ⟨⟨l1, l2, l3⟩, ⟨q0, q1, q2⟩, ⟨r0, r1, r2⟩, _, f2, fr, _⟩ := HM.out.rb
    by_cases hlt : k < ws.length
    · obtain ⟨x, hx⟩ : ∃ x, ws[k]? = some x := ⟨_, List.getElem?_eq_getElem hlt⟩
      obtain ⟨gw, rfl⟩ : ∃ g, aw = some ⟨g, 0, none⟩ := by
        rcases HM.out.sr.form with ⟨_, rfl⟩ | ⟨g, cap, h, _, _⟩
        · simp at hlt
        · injection h with h _ _; exact ⟨g, h⟩
      have hcx := HM.out.sr.cell k x hx
      have hk8 : (k : Int) < (ws.length : Int) := by omega
      have hdr := drop_at hx
      have HDR : Hid (readW (x :: ws.drop (k + 1)) st = ans) := by show _ = _; rw [← hdr]; exact HR.out
      clear HR hdr hx
      cases c1 : (x.toList == wShift)
      · cases c2 : (x.toList == wLevels)
        · cases c3 : levOf x with
          | none =>
            have HERR : Hid (ans = .error 2) := by show _ = _; rw [← HDR.out, readW_none c1 c2 c3]
            unfold levOf at c3
            cases d0 : (x.toList == [38])
            · rw [d0] at c3
              cases d1 : (x.toList == [60])
              · rw [d1] at c3
                cases d2 : (x.toList == [60, 60])
                · rw [d2] at c3
                  cases d3 : (x.toList == [60, 60, 60])
                  · clear c3 HDR
                    unfold wShift at c1
                    unfold wLevels at c2
                    go_wp2
                    refine bodyPost_ret (v := zeroRules 2) ?_ rfl (rdPost_err HERR.out (below_res3 hbe _ _ _))
                    rw [results_cell_tmp rfl]
                    unfold zeroRules
                    go_simp
                  · rw [d3] at c3; simp at c3
                · rw [d2] at c3; simp at c3
              · rw [d1] at c3; simp at c3
            · rw [d0] at c3; simp at c3
          | some lev =>
            have C1 : Hid _ := c1
            have C2 : Hid _ := c2
            have C3 : Hid _ := c3
            have hcs := levOf_cases c3
            unfold wShift at c1
            unfold wLevels at c2
            clear c3
            by_cases hl2 : k + 1 < ws.length
            · obtain ⟨y, hy⟩ : ∃ y, ws[k + 1]? = some y := ⟨_, List.getElem?_eq_getElem hl2⟩
              have hcy := HM.out.sr.cell (k + 1) y hy
              have HDR2 : Hid (readW (x :: y :: ws.drop (k + 1 + 1)) st = ans) := by show _ = _; rw [← drop_at hy]; exact HDR.out
              have he : ((k : Int) + 1 == (ws.length : Int)) = false := by simp; omega
              have hk9 : (k : Int) + 1 < (ws.length : Int) := by omega
              clear hy HDR
              by_cases hyl : 200 < y.size
              · have HERR : Hid (ans = .error 2) := by show _ = _; rw [← HDR2.out, readW_onel C1.out C2.out C3.out hyl]
                have hyl2 : (200 : Int) < (y.size : Int) := by omega
                clear HDR2 HM C1 C2 C3
                rcases hcs with ⟨_, d0⟩ | ⟨_, d0, d1⟩ | ⟨_, d0, d1, d2⟩ | ⟨_, d0, d1, d2, d3⟩
                · go_wp2
                  refine bodyPost_ret (v := zeroRules 2) ?_ rfl (rdPost_err HERR.out (below_res3 hbe _ _ _))
                  rw [results_cell_tmp rfl]
                  unfold zeroRules
                  go_simp
                · go_wp2
                  refine bodyPost_ret (v := zeroRules 2) ?_ rfl (rdPost_err HERR.out (below_res3 hbe _ _ _))
                  rw [results_cell_tmp rfl]
                  unfold zeroRules
                  go_simp
                · go_wp2
                  refine bodyPost_ret (v := zeroRules 2) ?_ rfl (rdPost_err HERR.out (below_res3 hbe _ _ _))
                  rw [results_cell_tmp rfl]
                  unfold zeroRules
                  go_simp
                · go_wp2
                  refine bodyPost_ret (v := zeroRules 2) ?_ rfl (rdPost_err HERR.out (below_res3 hbe _ _ _))
                  rw [results_cell_tmp rfl]
                  unfold zeroRules
                  go_simp
              · have DEC := fun w => l1Decode_any y w (by omega)
                have hdl := (Dec.decT_len y.size y (Nat.le_refl _)).1
                have hyl2 : ¬ (200 : Int) < (y.size : Int) := by omega
                have hnl : (nD (Dec.decT y.size y).1).length ≤ 1800 := by rw [nD_len]; have := apD_len (Dec.decT y.size y).1; omega
                rcases hcs with ⟨rfl, d0⟩ | ⟨rfl, d0, d1⟩ | ⟨rfl, d0, d1, d2⟩ | ⟨rfl, d0, d1, d2, d3⟩
                · go_wp2_with fail
                  refine (DEC _).mono ?_
                  rintro e w3 ⟨v3, rfl, i3, b3⟩
                  have D := d_any (zs := (Dec.decT y.size y).1) (by omega) i3
                  have HM3 : Hid (StM _ _ _ _ _ _ _ _) := HM.out.step b3
                  have hw3 : Hid (w2.heap.size + 1 + 1 ≤ w3.heap.size) := by show _ ≤ _; have := b3.size; omega
                  clear DEC HM q0 q1 q2 r0 r1 r2 f2 fr hcx hcy hbe l1 l2 l3 b3 i3
                  go_wp2_with fail
                  refine D.mono ?_
                  rintro e w4 ⟨v4, rfl, i4, b4⟩
                  have HM4 : Hid (StM _ _ _ _ _ _ _ _) := HM3.out.step b4
                  have i4b := ints_low2 i4 hw3.out
                  clear D HM3 b4 hw3 i4
                  generalize hl4 : nD (Dec.decT y.size y).1 = l at *
                  have HL4 : Hid _ := hl4
                  clear hl4
                  obtain ⟨a4, c4, rfl⟩ : ∃ a c, v4 = .slice a l.length c := by
                    rcases i4b.form with ⟨rfl, rfl⟩ | ⟨g, cap, rfl, _, _⟩
                    · exact ⟨_, _, rfl⟩
                    · exact ⟨_, _, rfl⟩
                  have RN := runes3_any (by omega) i4b
                  go_wp2_with fail
                  refine RN.mono ?_
                  rintro e w5 ⟨rfl, b5⟩
                  have HM5 : Hid (StM _ _ _ _ _ _ _ _) := HM4.out.step b5
                  have I5 : Hid (Ints _ _ _ _) := i4b.below b5
                  clear RN HM4 b5 i4b
                  cases hro : runesOk l
                  · have HERR : Hid (ans = .error 2) := by show _ = _; rw [← HDR2.out, readW_onee C1.out C2.out C3.out hyl (by rw [HL4.out]; exact putIn_bad hro)]
                    have hbe := HM5.out.be
                    obtain ⟨⟨l1, l2, l3⟩, ⟨q0, q1, q2⟩, ⟨r0, r1, r2⟩, ⟨e0, e1, e2, e3⟩, f2, fr, fl⟩ := HM5.out.rb
                    have lb2 : w.heap.size < w5.heap.size := by omega
                    have lbr : w2.heap.size < w5.heap.size := by omega
                    clear HDR2 HM5 C1 C2 C3 I5 HL4
                    go_wp2
                    refine bodyPost_ret (v := zeroRules 2) ?_ rfl (rdPost_err HERR.out (below_res3 hbe _ _ _))
                    rw [results_cell_tmp rfl]
                    unfold zeroRules
                    go_simp
                  · have hll := runesOk_len hro
                    have hrl : ∀ e ∈ st.es, e.runes.length ≤ 1048576 := fun e he => Nat.le_trans (runesOk_len ((rulesOk_whole HI.out.good).2.2 e he).1) (by omega)
                    have hel : st.es.length ≤ 40 := (rulesOk_whole HI.out.good).1
                    have hgr := runesOk_good hro
                    have EL := elem3_any (sh := st.sh) (lv := st.lv) HM5.out.en I5.out (by omega) (by omega) hrl hgr
                    clear hgr hrl
                    have hbe := HM5.out.be
                    obtain ⟨⟨l1, l2, l3⟩, ⟨q0, q1, q2⟩, ⟨r0, r1, r2⟩, ⟨e0, e1, e2, e3⟩, f2, fr, fl⟩ := HM5.out.rb
                    have lb2 : w.heap.size < w5.heap.size := by omega
                    have lbr : w2.heap.size < w5.heap.size := by omega
                    cases hee : elemE st.es l with
                    | none =>
                      have HERR : Hid (ans = .error 3) := by show _ = _; rw [← HDR2.out, readW_onee C1.out C2.out C3.out hyl (by rw [HL4.out]; exact putIn_reset0 hro hee)]
                      rw [hee] at EL
                      unfold elRes elV elOf at EL
                      simp only [Option.getD_none, Option.isSome_none] at EL
                      clear HDR2 C1 C2 C3 I5 HL4 hee
                      go_wp2_with fail
                      refine EL.mono ?_
                      rintro e w6 ⟨rfl, b6⟩
                      have HM6 : Hid (StM _ _ _ _ _ _ _ _) := HM5.out.step b6
                      clear q0 q1 q2 r0 r1 r2 e0 e1 e2 e3 f2 fr fl hbe l1 l2 l3 lb2 lbr
                      have hbe := HM6.out.be
                      obtain ⟨⟨l1, l2, l3⟩, ⟨q0, q1, q2⟩, ⟨r0, r1, r2⟩, ⟨e0, e1, e2, e3⟩, f2, fr, fl⟩ := HM6.out.rb
                      have lb2 : w.heap.size < w6.heap.size := by omega
                      have lbr : w2.heap.size < w6.heap.size := by omega
                      clear EL HM5 HM6 b6
                      go_wp2
                      refine bodyPost_ret (v := zeroRules 3) ?_ rfl (rdPost_err HERR.out ((below_res3 hbe _ _ _).alloc (by simpa using hbe.size) _))
                      rw [results_cell_tmp rfl]
                      unfold zeroRules
                      go_simp
                    | some x0 =>
                      rw [hee] at EL
                      unfold elRes elV elOf at EL
                      cases hv : x0.varies
                      · have HOK : Hid (readW (ws.drop (k + 1 + 1)) { st with last := x0, reset := true } = ans) := by show _ = _; rw [← HDR2.out, readW_onek C1.out C2.out C3.out hyl (by rw [HL4.out]; exact putIn_resetk hro hee hv)]
                        have HI2 : Hid (RInv { st with last := x0, reset := true }) := putIn_inv HI.out (putIn_resetk hro hee hv)
                        have HV : Hid (x0.varies = false) := hv
                        simp only [Option.getD_some, Option.isSome_some, hv] at EL
                        clear HDR2 C1 C2 C3 I5 HL4 hee hv
                        go_wp2_with fail
                        refine EL.mono ?_
                        rintro e w6 ⟨rfl, b6⟩
                        have HM6 : Hid (StM _ _ _ _ _ _ _ _) := HM5.out.step b6
                        clear q0 q1 q2 r0 r1 r2 e0 e1 e2 e3 f2 fr fl hbe l1 l2 l3 lb2 lbr
                        have HM7 : Hid (StM _ _ _ _ _ _ _ _) := (HM6.out.setLast x0 true).step ((Below.refl _ _).alloc (Nat.le_refl _) (.cells #[.int .i64 x0.first, .int .i64 x0.second, .int .i64 x0.third, .bool x0.varies] 44))
                        rw [HV.out] at HM7
                        unfold setEl at HM7
                        rw [HV.out] at HM7
                        have hbe := HM6.out.be
                        obtain ⟨⟨l1, l2, l3⟩, ⟨q0, q1, q2⟩, ⟨r0, r1, r2⟩, ⟨e0, e1, e2, e3⟩, f2, fr, fl⟩ := HM6.out.rb
                        have lb2 : w.heap.size < w6.heap.size := by omega
                        have lbr : w2.heap.size < w6.heap.size := by omega
                        clear EL HM5 HM6 b6 hbe
                        go_wp2
                        exact ⟨⟨k + 1 + 1, { st with last := x0, reset := true }, _, hl2, by go_num, rfl, HOK.out, HI2.out, HM7.out⟩, by simp [intOf]; omega⟩
                      · have HERR : Hid (ans = .error 3) := by show _ = _; rw [← HDR2.out, readW_onee C1.out C2.out C3.out hyl (by rw [HL4.out]; exact putIn_resetv hro hee hv)]
                        simp only [Option.getD_some, Option.isSome_some, hv] at EL
                        clear HDR2 C1 C2 C3 I5 HL4 hee hv
                        go_wp2_with fail
                        refine EL.mono ?_
                        rintro e w6 ⟨rfl, b6⟩
                        have HM6 : Hid (StM _ _ _ _ _ _ _ _) := HM5.out.step b6
                        clear q0 q1 q2 r0 r1 r2 e0 e1 e2 e3 f2 fr fl hbe l1 l2 l3 lb2 lbr
                        have hbe := HM6.out.be
                        obtain ⟨⟨l1, l2, l3⟩, ⟨q0, q1, q2⟩, ⟨r0, r1, r2⟩, ⟨e0, e1, e2, e3⟩, f2, fr, fl⟩ := HM6.out.rb
                        have lb2 : w.heap.size < w6.heap.size := by omega
                        have lbr : w2.heap.size < w6.heap.size := by omega
                        clear EL HM5 HM6 b6
                        go_wp2
                        refine bodyPost_ret (v := zeroRules 3) ?_ rfl (rdPost_err HERR.out ((below_res3 hbe _ _ _).alloc (by simpa using hbe.size) _))
                        rw [results_cell_tmp rfl]
                        unfold zeroRules
                        go_simp
                · go_wp2_with fail
                  refine (DEC _).mono ?_
                  rintro e w3 ⟨v3, rfl, i3, b3⟩
                  have D := d_any (zs := (Dec.decT y.size y).1) (by omega) i3
                  have HM3 : Hid (StM _ _ _ _ _ _ _ _) := HM.out.step b3
                  have hw3 : Hid (w2.heap.size + 1 + 1 ≤ w3.heap.size) := by show _ ≤ _; have := b3.size; omega
                  clear DEC HM q0 q1 q2 r0 r1 r2 f2 fr hcx hcy hbe l1 l2 l3 b3 i3
                  go_wp2_with fail
                  refine D.mono ?_
                  rintro e w4 ⟨v4, rfl, i4, b4⟩
                  have HM4 : Hid (StM _ _ _ _ _ _ _ _) := HM3.out.step b4
                  have i4b := ints_low2 i4 hw3.out
                  clear D HM3 b4 hw3 i4
                  generalize hl4 : nD (Dec.decT y.size y).1 = l at *
                  have HL4 : Hid _ := hl4
                  clear hl4
                  obtain ⟨a4, c4, rfl⟩ : ∃ a c, v4 = .slice a l.length c := by
                    rcases i4b.form with ⟨rfl, rfl⟩ | ⟨g, cap, rfl, _, _⟩
                    · exact ⟨_, _, rfl⟩
                    · exact ⟨_, _, rfl⟩
                  have RN := runes3_any (by omega) i4b
                  go_wp2_with fail
                  refine RN.mono ?_
                  rintro e w5 ⟨rfl, b5⟩
                  have HM5 : Hid (StM _ _ _ _ _ _ _ _) := HM4.out.step b5
                  have I5 : Hid (Ints _ _ _ _) := i4b.below b5
                  clear RN HM4 b5 i4b
                  cases hro : runesOk l
                  · have HERR : Hid (ans = .error 2) := by show _ = _; rw [← HDR2.out, readW_onee C1.out C2.out C3.out hyl (by rw [HL4.out]; exact putIn_bad hro)]
                    have hbe := HM5.out.be
                    obtain ⟨⟨l1, l2, l3⟩, ⟨q0, q1, q2⟩, ⟨r0, r1, r2⟩, ⟨e0, e1, e2, e3⟩, f2, fr, fl⟩ := HM5.out.rb
                    have lb2 : w.heap.size < w5.heap.size := by omega
                    have lbr : w2.heap.size < w5.heap.size := by omega
                    clear HDR2 HM5 C1 C2 C3 I5 HL4
                    go_wp2
                    refine bodyPost_ret (v := zeroRules 2) ?_ rfl (rdPost_err HERR.out (below_res3 hbe _ _ _))
                    rw [results_cell_tmp rfl]
                    unfold zeroRules
                    go_simp
                  · have hll := runesOk_len hro
                    have hrl : ∀ e ∈ st.es, e.runes.length ≤ 1048576 := fun e he => Nat.le_trans (runesOk_len ((rulesOk_whole HI.out.good).2.2 e he).1) (by omega)
                    have hel : st.es.length ≤ 40 := (rulesOk_whole HI.out.good).1
                    cases hrs : st.reset
                    · have HERR : Hid (ans = .error 3) := by show _ = _; rw [← HDR2.out, readW_onee C1.out C2.out C3.out hyl (by rw [HL4.out]; exact putIn_first hro (by omega) hrs)]
                      have hbe := HM5.out.be
                      obtain ⟨⟨l1, l2, l3⟩, ⟨q0, q1, q2⟩, ⟨r0, r1, r2⟩, ⟨e0, e1, e2, e3⟩, f2, fr, fl⟩ := HM5.out.rb
                      have lb2 : w.heap.size < w5.heap.size := by omega
                      have lbr : w2.heap.size < w5.heap.size := by omega
                      clear HDR2 HM5 C1 C2 C3 I5 HL4 hrl
                      go_wp2
                      refine bodyPost_ret (v := zeroRules 3) ?_ rfl (rdPost_err HERR.out (below_res3 hbe _ _ _))
                      rw [results_cell_tmp rfl]
                      unfold zeroRules
                      go_simp
                    · have AT := at3_any (sh := st.sh) (lv := st.lv) HM5.out.en I5.out (by omega) (by omega) hrl
                      clear hrl
                      have hbe := HM5.out.be
                      obtain ⟨⟨l1, l2, l3⟩, ⟨q0, q1, q2⟩, ⟨r0, r1, r2⟩, ⟨e0, e1, e2, e3⟩, f2, fr, fl⟩ := HM5.out.rb
                      have lb2 : w.heap.size < w5.heap.size := by omega
                      have lbr : w2.heap.size < w5.heap.size := by omega
                      go_wp2_with fail
                      refine AT.mono ?_
                      rintro e w6 ⟨rfl, b6⟩
                      have HM6 : Hid (StM _ _ _ _ _ _ _ _) := HM5.out.step b6
                      have I6 : Hid (Ints _ _ _ _) := I5.out.below b6
                      clear q0 q1 q2 r0 r1 r2 e0 e1 e2 e3 f2 fr fl hbe l1 l2 l3 lb2 lbr
                      clear AT HM5 I5 b6
                      have hbe := HM6.out.be
                      obtain ⟨⟨l1, l2, l3⟩, ⟨q0, q1, q2⟩, ⟨r0, r1, r2⟩, ⟨e0, e1, e2, e3⟩, f2, fr, fl⟩ := HM6.out.rb
                      have lb2 : w.heap.size < w6.heap.size := by omega
                      have lbr : w2.heap.size < w6.heap.size := by omega
                      by_cases hat : 0 ≤ atE st.es l
                      · have HERR : Hid (ans = .error 4) := by show _ = _; rw [← HDR2.out, readW_onee C1.out C2.out C3.out hyl (by rw [HL4.out]; exact putIn_twice hro (by omega) hrs hat)]
                        clear HDR2 HM6 C1 C2 C3 I6 HL4
                        go_wp2
                        refine bodyPost_ret (v := zeroRules 4) ?_ rfl (rdPost_err HERR.out (below_res3 hbe _ _ _))
                        rw [results_cell_tmp rfl]
                        unfold zeroRules
                        go_simp
                      · have BH := behind_any (sh := st.sh) (lv := st.lv) (n := 1) HM6.out.en HI.out (by omega)
                        have HPUT := putIn_put (lev := 1) hro (by omega) hrs hat
                        obtain ⟨nb, HNB⟩ : ∃ nb, Hid (behindE st.es st.last 1 = nb) := ⟨_, rfl⟩
                        rw [HNB.out] at BH HPUT
                        unfold elV at BH
                        go_wp2_with fail
                        refine BH.mono ?_
                        rintro e w7 ⟨rfl, b7⟩
                        have HM7 : Hid (StM _ _ _ _ _ _ _ _) := HM6.out.step b7
                        have I7 : Hid (Ints _ _ _ _) := I6.out.below b7
                        clear q0 q1 q2 r0 r1 r2 e0 e1 e2 e3 f2 fr fl hbe l1 l2 l3 lb2 lbr
                        clear BH HM6 I6 b7
                        have hM8 := HM7.out.setLast nb st.reset
                        have i8 : Ints (setEl w7 (w2.heap.size + 1) nb) _ _ _ := World.ownsRow.kept I7.out (setEl_grown w7 (w2.heap.size + 1) nb) (own_above I7.out (Nat.le_refl _))
                        have hbe := HM7.out.be
                        obtain ⟨⟨l1, l2, l3⟩, ⟨q0, q1, q2⟩, ⟨r0, r1, r2⟩, ⟨e0, e1, e2, e3⟩, f2, fr, fl⟩ := HM7.out.rb
                        have lb2 : w.heap.size < w7.heap.size := by omega
                        have lbr : w2.heap.size < w7.heap.size := by omega
                        obtain ⟨xs, hxl, h1, h2⟩ := hM8.en
                        have HM8 : Hid (StM _ _ _ _ _ _ _ _) := hM8
                        have H2 : Hid _ := h2
                        have I8 : Hid (Ints _ _ _ _) := i8
                        obtain ⟨it, hit, hzz, hz1, hz2⟩ := info_parts info_ent
                        clear HM7 I7 hM8 h2 i8 hbe
                        go_wp2_with (at_builtin; refine wpList_append_lies _ rfl _ _ 37 rfl (w2.heap.size + 1 + 1) 46 it _ 5 56 Tryd.underlying37 hit hzz hz1 hz2 rfl (by decide) _ _ _ rfl (h1.alloc _) ⟨w7.heap.size, 0, none⟩ 1 1 (entC (.slice a4 l.length c4) nb) rfl rfl (cells5_at _ _ _ _ _ (by simp)) ?hone (by omega) (by unfold maxLen; omega) (by omega) (by simp; omega) (w7.heap.size + 1) (by simp) ?_)
                        case hone =>
                          intro z hz
                          simp [entC] at hz
                          rcases hz with rfl | rfl | rfl | rfl | rfl <;> rfl
                        intro g9 cap9 w9 ho9 hg9 _ _
                        have hMp := StM.put (l := l) (HM8.out.step ((Below.refl _ _).alloc (Nat.le_refl _) (.cells #[.slice a4 l.length c4, .int .i64 nb.first, .int .i64 nb.second, .int .i64 nb.third, .bool nb.varies] 46))) hxl
                          (fun kk ee he => by obtain ⟨z, hz, hzi⟩ := H2.out kk ee he; exact ⟨z, hz, hzi.below ((Below.refl _ _).alloc (Nat.le_refl _) _)⟩) (I8.out.below ((Below.refl _ _).alloc (Nat.le_refl _) _)) (h1.alloc _) hg9 ho9
                        have HM9 : Hid (StM _ _ _ _ _ _ _ _) := hMp
                        have hr9 : ∀ e ∈ st.es ++ [⟨l, nb⟩], e.runes.length ≤ 1048576 := fun e he => by
                          rcases List.mem_append.1 he with h | h
                          · exact Nat.le_trans (runesOk_len ((rulesOk_whole HI.out.good).2.2 e h).1) (by omega)
                          · simp at h; subst h; exact Nat.le_trans hll (by omega)
                        have GR := good3_any (sh := st.sh) (lv := st.lv) hMp.en hr9
                        have rbp := (HM8.out.step ((Below.refl _ _).alloc (Nat.le_refl _) (.cells #[.slice a4 l.length c4, .int .i64 nb.first, .int .i64 nb.second, .int .i64 nb.third, .bool nb.varies] 46))).rb.upTo (Below.grown (Below.refl (w2.heap.size + 1 + 1) _) hg9 (by unfold setEl; simp; omega) (fun j hj => (World.ownsRow.lt h1 j hj).1)) (Nat.lt_succ_self _)
                        clear q0 q1 q2 r0 r1 r2 e0 e1 e2 e3 f2 fr fl hMp HM8 H2 I8 h1 hg9 ho9 hr9
                        obtain ⟨⟨l1', l2', l3'⟩, ⟨q0, q1, q2⟩, ⟨r0, r1, r2⟩, ⟨e0, e1, e2, e3⟩, f2, fr, fl⟩ := rbp
                        go_wp2_with fail
                        refine GR.mono ?_
                        rintro e w10 ⟨rfl, b10⟩
                        have HM10 : Hid (StM _ _ _ _ _ _ _ _) := HM9.out.step b10
                        clear q0 q1 q2 r0 r1 r2 e0 e1 e2 e3 f2 fr fl GR HM9 l1 l2 l3 lb2 lbr l1' l2' l3' b10
                        cases hgd : rulesOk (st.es ++ [⟨l, nb⟩]) st.lv
                        · have HERR : Hid (ans = .error 5) := by show _ = _; rw [← HDR2.out, readW_onee C1.out C2.out C3.out hyl (by rw [HL4.out, HPUT, if_neg (by simp [hgd])])]
                          have hbe := HM10.out.be
                          obtain ⟨⟨l1, l2, l3⟩, ⟨q0, q1, q2⟩, ⟨r0, r1, r2⟩, ⟨e0, e1, e2, e3⟩, f2, fr, fl⟩ := HM10.out.rb
                          clear HDR2 C1 C2 C3 HL4 HPUT HM10
                          go_wp2
                          refine bodyPost_ret (v := zeroRules 5) ?_ rfl (rdPost_err HERR.out (below_res3 hbe _ _ _))
                          rw [results_cell_tmp rfl]
                          unfold zeroRules
                          go_simp
                        · have HP : putIn st 1 l = .ok { st with es := st.es ++ [⟨l, nb⟩], last := nb } := by rw [HPUT, if_pos hgd]
                          have HOK : Hid (readW (ws.drop (k + 1 + 1)) { st with es := st.es ++ [⟨l, nb⟩], last := nb } = ans) := by show _ = _; rw [← HDR2.out, readW_onek C1.out C2.out C3.out hyl (by rw [HL4.out]; exact HP)]
                          have HI2 : Hid (RInv { st with es := st.es ++ [⟨l, nb⟩], last := nb }) := putIn_inv HI.out HP
                          clear HDR2 C1 C2 C3 HL4 HPUT HP
                          go_wp2
                          exact ⟨⟨k + 1 + 1, { st with es := st.es ++ [⟨l, nb⟩], last := nb }, _, hl2, by go_num, by show Value.bool true = Value.bool st.reset; rw [hrs], HOK.out, HI2.out, HM10.out⟩, by simp [intOf]; omega⟩
                · go_wp2_with fail
                  refine (DEC _).mono ?_
                  rintro e w3 ⟨v3, rfl, i3, b3⟩
                  have D := d_any (zs := (Dec.decT y.size y).1) (by omega) i3
                  have HM3 : Hid (StM _ _ _ _ _ _ _ _) := HM.out.step b3
                  have hw3 : Hid (w2.heap.size + 1 + 1 ≤ w3.heap.size) := by show _ ≤ _; have := b3.size; omega
                  clear DEC HM q0 q1 q2 r0 r1 r2 f2 fr hcx hcy hbe l1 l2 l3 b3 i3
                  go_wp2_with fail
                  refine D.mono ?_
                  rintro e w4 ⟨v4, rfl, i4, b4⟩
                  have HM4 : Hid (StM _ _ _ _ _ _ _ _) := HM3.out.step b4
                  have i4b := ints_low2 i4 hw3.out
                  clear D HM3 b4 hw3 i4
                  generalize hl4 : nD (Dec.decT y.size y).1 = l at *
                  have HL4 : Hid _ := hl4
                  clear hl4
                  obtain ⟨a4, c4, rfl⟩ : ∃ a c, v4 = .slice a l.length c := by
                    rcases i4b.form with ⟨rfl, rfl⟩ | ⟨g, cap, rfl, _, _⟩
                    · exact ⟨_, _, rfl⟩
                    · exact ⟨_, _, rfl⟩
                  have RN := runes3_any (by omega) i4b
                  go_wp2_with fail
                  refine RN.mono ?_
                  rintro e w5 ⟨rfl, b5⟩
                  have HM5 : Hid (StM _ _ _ _ _ _ _ _) := HM4.out.step b5
                  have I5 : Hid (Ints _ _ _ _) := i4b.below b5
                  clear RN HM4 b5 i4b
                  cases hro : runesOk l
                  · have HERR : Hid (ans = .error 2) := by show _ = _; rw [← HDR2.out, readW_onee C1.out C2.out C3.out hyl (by rw [HL4.out]; exact putIn_bad hro)]
                    have hbe := HM5.out.be
                    obtain ⟨⟨l1, l2, l3⟩, ⟨q0, q1, q2⟩, ⟨r0, r1, r2⟩, ⟨e0, e1, e2, e3⟩, f2, fr, fl⟩ := HM5.out.rb
                    have lb2 : w.heap.size < w5.heap.size := by omega
                    have lbr : w2.heap.size < w5.heap.size := by omega
                    clear HDR2 HM5 C1 C2 C3 I5 HL4
                    go_wp2
                    refine bodyPost_ret (v := zeroRules 2) ?_ rfl (rdPost_err HERR.out (below_res3 hbe _ _ _))
                    rw [results_cell_tmp rfl]
                    unfold zeroRules
                    go_simp
                  · have hll := runesOk_len hro
                    have hrl : ∀ e ∈ st.es, e.runes.length ≤ 1048576 := fun e he => Nat.le_trans (runesOk_len ((rulesOk_whole HI.out.good).2.2 e he).1) (by omega)
                    have hel : st.es.length ≤ 40 := (rulesOk_whole HI.out.good).1
                    cases hrs : st.reset
                    · have HERR : Hid (ans = .error 3) := by show _ = _; rw [← HDR2.out, readW_onee C1.out C2.out C3.out hyl (by rw [HL4.out]; exact putIn_first hro (by omega) hrs)]
                      have hbe := HM5.out.be
                      obtain ⟨⟨l1, l2, l3⟩, ⟨q0, q1, q2⟩, ⟨r0, r1, r2⟩, ⟨e0, e1, e2, e3⟩, f2, fr, fl⟩ := HM5.out.rb
                      have lb2 : w.heap.size < w5.heap.size := by omega
                      have lbr : w2.heap.size < w5.heap.size := by omega
                      clear HDR2 HM5 C1 C2 C3 I5 HL4 hrl
                      go_wp2
                      refine bodyPost_ret (v := zeroRules 3) ?_ rfl (rdPost_err HERR.out (below_res3 hbe _ _ _))
                      rw [results_cell_tmp rfl]
                      unfold zeroRules
                      go_simp
                    · have AT := at3_any (sh := st.sh) (lv := st.lv) HM5.out.en I5.out (by omega) (by omega) hrl
                      clear hrl
                      have hbe := HM5.out.be
                      obtain ⟨⟨l1, l2, l3⟩, ⟨q0, q1, q2⟩, ⟨r0, r1, r2⟩, ⟨e0, e1, e2, e3⟩, f2, fr, fl⟩ := HM5.out.rb
                      have lb2 : w.heap.size < w5.heap.size := by omega
                      have lbr : w2.heap.size < w5.heap.size := by omega
                      go_wp2_with fail
                      refine AT.mono ?_
                      rintro e w6 ⟨rfl, b6⟩
                      have HM6 : Hid (StM _ _ _ _ _ _ _ _) := HM5.out.step b6
                      have I6 : Hid (Ints _ _ _ _) := I5.out.below b6
                      clear q0 q1 q2 r0 r1 r2 e0 e1 e2 e3 f2 fr fl hbe l1 l2 l3 lb2 lbr
                      clear AT HM5 I5 b6
                      have hbe := HM6.out.be
                      obtain ⟨⟨l1, l2, l3⟩, ⟨q0, q1, q2⟩, ⟨r0, r1, r2⟩, ⟨e0, e1, e2, e3⟩, f2, fr, fl⟩ := HM6.out.rb
                      have lb2 : w.heap.size < w6.heap.size := by omega
                      have lbr : w2.heap.size < w6.heap.size := by omega
                      by_cases hat : 0 ≤ atE st.es l
                      · have HERR : Hid (ans = .error 4) := by show _ = _; rw [← HDR2.out, readW_onee C1.out C2.out C3.out hyl (by rw [HL4.out]; exact putIn_twice hro (by omega) hrs hat)]
                        clear HDR2 HM6 C1 C2 C3 I6 HL4
                        go_wp2
                        refine bodyPost_ret (v := zeroRules 4) ?_ rfl (rdPost_err HERR.out (below_res3 hbe _ _ _))
                        rw [results_cell_tmp rfl]
                        unfold zeroRules
                        go_simp
                      · have BH := behind_any (sh := st.sh) (lv := st.lv) (n := 2) HM6.out.en HI.out (by omega)
                        have HPUT := putIn_put (lev := 2) hro (by omega) hrs hat
                        obtain ⟨nb, HNB⟩ : ∃ nb, Hid (behindE st.es st.last 2 = nb) := ⟨_, rfl⟩
                        rw [HNB.out] at BH HPUT
                        unfold elV at BH
                        go_wp2_with fail
                        refine BH.mono ?_
                        rintro e w7 ⟨rfl, b7⟩
                        have HM7 : Hid (StM _ _ _ _ _ _ _ _) := HM6.out.step b7
                        have I7 : Hid (Ints _ _ _ _) := I6.out.below b7
                        clear q0 q1 q2 r0 r1 r2 e0 e1 e2 e3 f2 fr fl hbe l1 l2 l3 lb2 lbr
                        clear BH HM6 I6 b7
                        have hM8 := HM7.out.setLast nb st.reset
                        have i8 : Ints (setEl w7 (w2.heap.size + 1) nb) _ _ _ := World.ownsRow.kept I7.out (setEl_grown w7 (w2.heap.size + 1) nb) (own_above I7.out (Nat.le_refl _))
                        have hbe := HM7.out.be
                        obtain ⟨⟨l1, l2, l3⟩, ⟨q0, q1, q2⟩, ⟨r0, r1, r2⟩, ⟨e0, e1, e2, e3⟩, f2, fr, fl⟩ := HM7.out.rb
                        have lb2 : w.heap.size < w7.heap.size := by omega
                        have lbr : w2.heap.size < w7.heap.size := by omega
                        obtain ⟨xs, hxl, h1, h2⟩ := hM8.en
                        have HM8 : Hid (StM _ _ _ _ _ _ _ _) := hM8
                        have H2 : Hid _ := h2
                        have I8 : Hid (Ints _ _ _ _) := i8
                        obtain ⟨it, hit, hzz, hz1, hz2⟩ := info_parts info_ent
                        clear HM7 I7 hM8 h2 i8 hbe
                        go_wp2_with (at_builtin; refine wpList_append_lies _ rfl _ _ 37 rfl (w2.heap.size + 1 + 1) 46 it _ 5 56 Tryd.underlying37 hit hzz hz1 hz2 rfl (by decide) _ _ _ rfl (h1.alloc _) ⟨w7.heap.size, 0, none⟩ 1 1 (entC (.slice a4 l.length c4) nb) rfl rfl (cells5_at _ _ _ _ _ (by simp)) ?hone (by omega) (by unfold maxLen; omega) (by omega) (by simp; omega) (w7.heap.size + 1) (by simp) ?_)
                        case hone =>
                          intro z hz
                          simp [entC] at hz
                          rcases hz with rfl | rfl | rfl | rfl | rfl <;> rfl
                        intro g9 cap9 w9 ho9 hg9 _ _
                        have hMp := StM.put (l := l) (HM8.out.step ((Below.refl _ _).alloc (Nat.le_refl _) (.cells #[.slice a4 l.length c4, .int .i64 nb.first, .int .i64 nb.second, .int .i64 nb.third, .bool nb.varies] 46))) hxl
                          (fun kk ee he => by obtain ⟨z, hz, hzi⟩ := H2.out kk ee he; exact ⟨z, hz, hzi.below ((Below.refl _ _).alloc (Nat.le_refl _) _)⟩) (I8.out.below ((Below.refl _ _).alloc (Nat.le_refl _) _)) (h1.alloc _) hg9 ho9
                        have HM9 : Hid (StM _ _ _ _ _ _ _ _) := hMp
                        have hr9 : ∀ e ∈ st.es ++ [⟨l, nb⟩], e.runes.length ≤ 1048576 := fun e he => by
                          rcases List.mem_append.1 he with h | h
                          · exact Nat.le_trans (runesOk_len ((rulesOk_whole HI.out.good).2.2 e h).1) (by omega)
                          · simp at h; subst h; exact Nat.le_trans hll (by omega)
                        have GR := good3_any (sh := st.sh) (lv := st.lv) hMp.en hr9
                        have rbp := (HM8.out.step ((Below.refl _ _).alloc (Nat.le_refl _) (.cells #[.slice a4 l.length c4, .int .i64 nb.first, .int .i64 nb.second, .int .i64 nb.third, .bool nb.varies] 46))).rb.upTo (Below.grown (Below.refl (w2.heap.size + 1 + 1) _) hg9 (by unfold setEl; simp; omega) (fun j hj => (World.ownsRow.lt h1 j hj).1)) (Nat.lt_succ_self _)
                        clear q0 q1 q2 r0 r1 r2 e0 e1 e2 e3 f2 fr fl hMp HM8 H2 I8 h1 hg9 ho9 hr9
                        obtain ⟨⟨l1', l2', l3'⟩, ⟨q0, q1, q2⟩, ⟨r0, r1, r2⟩, ⟨e0, e1, e2, e3⟩, f2, fr, fl⟩ := rbp
                        go_wp2_with fail
                        refine GR.mono ?_
                        rintro e w10 ⟨rfl, b10⟩
                        have HM10 : Hid (StM _ _ _ _ _ _ _ _) := HM9.out.step b10
                        clear q0 q1 q2 r0 r1 r2 e0 e1 e2 e3 f2 fr fl GR HM9 l1 l2 l3 lb2 lbr l1' l2' l3' b10
                        cases hgd : rulesOk (st.es ++ [⟨l, nb⟩]) st.lv
                        · have HERR : Hid (ans = .error 5) := by show _ = _; rw [← HDR2.out, readW_onee C1.out C2.out C3.out hyl (by rw [HL4.out, HPUT, if_neg (by simp [hgd])])]
                          have hbe := HM10.out.be
                          obtain ⟨⟨l1, l2, l3⟩, ⟨q0, q1, q2⟩, ⟨r0, r1, r2⟩, ⟨e0, e1, e2, e3⟩, f2, fr, fl⟩ := HM10.out.rb
                          clear HDR2 C1 C2 C3 HL4 HPUT HM10
                          go_wp2
                          refine bodyPost_ret (v := zeroRules 5) ?_ rfl (rdPost_err HERR.out (below_res3 hbe _ _ _))
                          rw [results_cell_tmp rfl]
                          unfold zeroRules
                          go_simp
                        · have HP : putIn st 2 l = .ok { st with es := st.es ++ [⟨l, nb⟩], last := nb } := by rw [HPUT, if_pos hgd]
                          have HOK : Hid (readW (ws.drop (k + 1 + 1)) { st with es := st.es ++ [⟨l, nb⟩], last := nb } = ans) := by show _ = _; rw [← HDR2.out, readW_onek C1.out C2.out C3.out hyl (by rw [HL4.out]; exact HP)]
                          have HI2 : Hid (RInv { st with es := st.es ++ [⟨l, nb⟩], last := nb }) := putIn_inv HI.out HP
                          clear HDR2 C1 C2 C3 HL4 HPUT HP
                          go_wp2
                          exact ⟨⟨k + 1 + 1, { st with es := st.es ++ [⟨l, nb⟩], last := nb }, _, hl2, by go_num, by show Value.bool true = Value.bool st.reset; rw [hrs], HOK.out, HI2.out, HM10.out⟩, by simp [intOf]; omega⟩
                · go_wp2_with fail
                  refine (DEC _).mono ?_
                  rintro e w3 ⟨v3, rfl, i3, b3⟩
                  have D := d_any (zs := (Dec.decT y.size y).1) (by omega) i3
                  have HM3 : Hid (StM _ _ _ _ _ _ _ _) := HM.out.step b3
                  have hw3 : Hid (w2.heap.size + 1 + 1 ≤ w3.heap.size) := by show _ ≤ _; have := b3.size; omega
                  clear DEC HM q0 q1 q2 r0 r1 r2 f2 fr hcx hcy hbe l1 l2 l3 b3 i3
                  go_wp2_with fail
                  refine D.mono ?_
                  rintro e w4 ⟨v4, rfl, i4, b4⟩
                  have HM4 : Hid (StM _ _ _ _ _ _ _ _) := HM3.out.step b4
                  have i4b := ints_low2 i4 hw3.out
                  clear D HM3 b4 hw3 i4
                  generalize hl4 : nD (Dec.decT y.size y).1 = l at *
                  have HL4 : Hid _ := hl4
                  clear hl4
                  obtain ⟨a4, c4, rfl⟩ : ∃ a c, v4 = .slice a l.length c := by
                    rcases i4b.form with ⟨rfl, rfl⟩ | ⟨g, cap, rfl, _, _⟩
                    · exact ⟨_, _, rfl⟩
                    · exact ⟨_, _, rfl⟩
                  have RN := runes3_any (by omega) i4b
                  go_wp2_with fail
                  refine RN.mono ?_
                  rintro e w5 ⟨rfl, b5⟩
                  have HM5 : Hid (StM _ _ _ _ _ _ _ _) := HM4.out.step b5
                  have I5 : Hid (Ints _ _ _ _) := i4b.below b5
                  clear RN HM4 b5 i4b
                  cases hro : runesOk l
                  · have HERR : Hid (ans = .error 2) := by show _ = _; rw [← HDR2.out, readW_onee C1.out C2.out C3.out hyl (by rw [HL4.out]; exact putIn_bad hro)]
                    have hbe := HM5.out.be
                    obtain ⟨⟨l1, l2, l3⟩, ⟨q0, q1, q2⟩, ⟨r0, r1, r2⟩, ⟨e0, e1, e2, e3⟩, f2, fr, fl⟩ := HM5.out.rb
                    have lb2 : w.heap.size < w5.heap.size := by omega
                    have lbr : w2.heap.size < w5.heap.size := by omega
                    clear HDR2 HM5 C1 C2 C3 I5 HL4
                    go_wp2
                    refine bodyPost_ret (v := zeroRules 2) ?_ rfl (rdPost_err HERR.out (below_res3 hbe _ _ _))
                    rw [results_cell_tmp rfl]
                    unfold zeroRules
                    go_simp
                  · have hll := runesOk_len hro
                    have hrl : ∀ e ∈ st.es, e.runes.length ≤ 1048576 := fun e he => Nat.le_trans (runesOk_len ((rulesOk_whole HI.out.good).2.2 e he).1) (by omega)
                    have hel : st.es.length ≤ 40 := (rulesOk_whole HI.out.good).1
                    cases hrs : st.reset
                    · have HERR : Hid (ans = .error 3) := by show _ = _; rw [← HDR2.out, readW_onee C1.out C2.out C3.out hyl (by rw [HL4.out]; exact putIn_first hro (by omega) hrs)]
                      have hbe := HM5.out.be
                      obtain ⟨⟨l1, l2, l3⟩, ⟨q0, q1, q2⟩, ⟨r0, r1, r2⟩, ⟨e0, e1, e2, e3⟩, f2, fr, fl⟩ := HM5.out.rb
                      have lb2 : w.heap.size < w5.heap.size := by omega
                      have lbr : w2.heap.size < w5.heap.size := by omega
                      clear HDR2 HM5 C1 C2 C3 I5 HL4 hrl
                      go_wp2
                      refine bodyPost_ret (v := zeroRules 3) ?_ rfl (rdPost_err HERR.out (below_res3 hbe _ _ _))
                      rw [results_cell_tmp rfl]
                      unfold zeroRules
                      go_simp
                    · have AT := at3_any (sh := st.sh) (lv := st.lv) HM5.out.en I5.out (by omega) (by omega) hrl
                      clear hrl
                      have hbe := HM5.out.be
                      obtain ⟨⟨l1, l2, l3⟩, ⟨q0, q1, q2⟩, ⟨r0, r1, r2⟩, ⟨e0, e1, e2, e3⟩, f2, fr, fl⟩ := HM5.out.rb
                      have lb2 : w.heap.size < w5.heap.size := by omega
                      have lbr : w2.heap.size < w5.heap.size := by omega
                      go_wp2_with fail
                      refine AT.mono ?_
                      rintro e w6 ⟨rfl, b6⟩
                      have HM6 : Hid (StM _ _ _ _ _ _ _ _) := HM5.out.step b6
                      have I6 : Hid (Ints _ _ _ _) := I5.out.below b6
                      clear q0 q1 q2 r0 r1 r2 e0 e1 e2 e3 f2 fr fl hbe l1 l2 l3 lb2 lbr
                      clear AT HM5 I5 b6
                      have hbe := HM6.out.be
                      obtain ⟨⟨l1, l2, l3⟩, ⟨q0, q1, q2⟩, ⟨r0, r1, r2⟩, ⟨e0, e1, e2, e3⟩, f2, fr, fl⟩ := HM6.out.rb
                      have lb2 : w.heap.size < w6.heap.size := by omega
                      have lbr : w2.heap.size < w6.heap.size := by omega
                      by_cases hat : 0 ≤ atE st.es l
                      · have HERR : Hid (ans = .error 4) := by show _ = _; rw [← HDR2.out, readW_onee C1.out C2.out C3.out hyl (by rw [HL4.out]; exact putIn_twice hro (by omega) hrs hat)]
                        clear HDR2 HM6 C1 C2 C3 I6 HL4
                        go_wp2
                        refine bodyPost_ret (v := zeroRules 4) ?_ rfl (rdPost_err HERR.out (below_res3 hbe _ _ _))
                        rw [results_cell_tmp rfl]
                        unfold zeroRules
                        go_simp
                      · have BH := behind_any (sh := st.sh) (lv := st.lv) (n := 3) HM6.out.en HI.out (by omega)
                        have HPUT := putIn_put (lev := 3) hro (by omega) hrs hat
                        obtain ⟨nb, HNB⟩ : ∃ nb, Hid (behindE st.es st.last 3 = nb) := ⟨_, rfl⟩
                        rw [HNB.out] at BH HPUT
                        unfold elV at BH
                        go_wp2_with fail
                        refine BH.mono ?_
                        rintro e w7 ⟨rfl, b7⟩
                        have HM7 : Hid (StM _ _ _ _ _ _ _ _) := HM6.out.step b7
                        have I7 : Hid (Ints _ _ _ _) := I6.out.below b7
                        clear q0 q1 q2 r0 r1 r2 e0 e1 e2 e3 f2 fr fl hbe l1 l2 l3 lb2 lbr
                        clear BH HM6 I6 b7
                        have hM8 := HM7.out.setLast nb st.reset
                        have i8 : Ints (setEl w7 (w2.heap.size + 1) nb) _ _ _ := World.ownsRow.kept I7.out (setEl_grown w7 (w2.heap.size + 1) nb) (own_above I7.out (Nat.le_refl _))
                        have hbe := HM7.out.be
                        obtain ⟨⟨l1, l2, l3⟩, ⟨q0, q1, q2⟩, ⟨r0, r1, r2⟩, ⟨e0, e1, e2, e3⟩, f2, fr, fl⟩ := HM7.out.rb
                        have lb2 : w.heap.size < w7.heap.size := by omega
                        have lbr : w2.heap.size < w7.heap.size := by omega
                        obtain ⟨xs, hxl, h1, h2⟩ := hM8.en
                        have HM8 : Hid (StM _ _ _ _ _ _ _ _) := hM8
                        have H2 : Hid _ := h2
                        have I8 : Hid (Ints _ _ _ _) := i8
                        obtain ⟨it, hit, hzz, hz1, hz2⟩ := info_parts info_ent
                        clear HM7 I7 hM8 h2 i8 hbe
                        go_wp2_with (at_builtin; refine wpList_append_lies _ rfl _ _ 37 rfl (w2.heap.size + 1 + 1) 46 it _ 5 56 Tryd.underlying37 hit hzz hz1 hz2 rfl (by decide) _ _ _ rfl (h1.alloc _) ⟨w7.heap.size, 0, none⟩ 1 1 (entC (.slice a4 l.length c4) nb) rfl rfl (cells5_at _ _ _ _ _ (by simp)) ?hone (by omega) (by unfold maxLen; omega) (by omega) (by simp; omega) (w7.heap.size + 1) (by simp) ?_)
                        case hone =>
                          intro z hz
                          simp [entC] at hz
                          rcases hz with rfl | rfl | rfl | rfl | rfl <;> rfl
                        intro g9 cap9 w9 ho9 hg9 _ _
                        have hMp := StM.put (l := l) (HM8.out.step ((Below.refl _ _).alloc (Nat.le_refl _) (.cells #[.slice a4 l.length c4, .int .i64 nb.first, .int .i64 nb.second, .int .i64 nb.third, .bool nb.varies] 46))) hxl
                          (fun kk ee he => by obtain ⟨z, hz, hzi⟩ := H2.out kk ee he; exact ⟨z, hz, hzi.below ((Below.refl _ _).alloc (Nat.le_refl _) _)⟩) (I8.out.below ((Below.refl _ _).alloc (Nat.le_refl _) _)) (h1.alloc _) hg9 ho9
                        have HM9 : Hid (StM _ _ _ _ _ _ _ _) := hMp
                        have hr9 : ∀ e ∈ st.es ++ [⟨l, nb⟩], e.runes.length ≤ 1048576 := fun e he => by
                          rcases List.mem_append.1 he with h | h
                          · exact Nat.le_trans (runesOk_len ((rulesOk_whole HI.out.good).2.2 e h).1) (by omega)
                          · simp at h; subst h; exact Nat.le_trans hll (by omega)
                        have GR := good3_any (sh := st.sh) (lv := st.lv) hMp.en hr9
                        have rbp := (HM8.out.step ((Below.refl _ _).alloc (Nat.le_refl _) (.cells #[.slice a4 l.length c4, .int .i64 nb.first, .int .i64 nb.second, .int .i64 nb.third, .bool nb.varies] 46))).rb.upTo (Below.grown (Below.refl (w2.heap.size + 1 + 1) _) hg9 (by unfold setEl; simp; omega) (fun j hj => (World.ownsRow.lt h1 j hj).1)) (Nat.lt_succ_self _)
                        clear q0 q1 q2 r0 r1 r2 e0 e1 e2 e3 f2 fr fl hMp HM8 H2 I8 h1 hg9 ho9 hr9
                        obtain ⟨⟨l1', l2', l3'⟩, ⟨q0, q1, q2⟩, ⟨r0, r1, r2⟩, ⟨e0, e1, e2, e3⟩, f2, fr, fl⟩ := rbp
                        go_wp2_with fail
                        refine GR.mono ?_
                        rintro e w10 ⟨rfl, b10⟩
                        have HM10 : Hid (StM _ _ _ _ _ _ _ _) := HM9.out.step b10
                        clear q0 q1 q2 r0 r1 r2 e0 e1 e2 e3 f2 fr fl GR HM9 l1 l2 l3 lb2 lbr l1' l2' l3' b10
                        cases hgd : rulesOk (st.es ++ [⟨l, nb⟩]) st.lv
                        · have HERR : Hid (ans = .error 5) := by show _ = _; rw [← HDR2.out, readW_onee C1.out C2.out C3.out hyl (by rw [HL4.out, HPUT, if_neg (by simp [hgd])])]
                          have hbe := HM10.out.be
                          obtain ⟨⟨l1, l2, l3⟩, ⟨q0, q1, q2⟩, ⟨r0, r1, r2⟩, ⟨e0, e1, e2, e3⟩, f2, fr, fl⟩ := HM10.out.rb
                          clear HDR2 C1 C2 C3 HL4 HPUT HM10
                          go_wp2
                          refine bodyPost_ret (v := zeroRules 5) ?_ rfl (rdPost_err HERR.out (below_res3 hbe _ _ _))
                          rw [results_cell_tmp rfl]
                          unfold zeroRules
                          go_simp
                        · have HP : putIn st 3 l = .ok { st with es := st.es ++ [⟨l, nb⟩], last := nb } := by rw [HPUT, if_pos hgd]
                          have HOK : Hid (readW (ws.drop (k + 1 + 1)) { st with es := st.es ++ [⟨l, nb⟩], last := nb } = ans) := by show _ = _; rw [← HDR2.out, readW_onek C1.out C2.out C3.out hyl (by rw [HL4.out]; exact HP)]
                          have HI2 : Hid (RInv { st with es := st.es ++ [⟨l, nb⟩], last := nb }) := putIn_inv HI.out HP
                          clear HDR2 C1 C2 C3 HL4 HPUT HP
                          go_wp2
                          exact ⟨⟨k + 1 + 1, { st with es := st.es ++ [⟨l, nb⟩], last := nb }, _, hl2, by go_num, by show Value.bool true = Value.bool st.reset; rw [hrs], HOK.out, HI2.out, HM10.out⟩, by simp [intOf]; omega⟩
            · have HERR : Hid (ans = .error 2) := by show _ = _; rw [← HDR.out, drop_end (by omega), readW_one0 C1.out C2.out C3.out]
              have he : ((k : Int) + 1 == (ws.length : Int)) = true := by simp; omega
              clear HDR HM C1 C2 C3
              rcases hcs with ⟨_, d0⟩ | ⟨_, d0, d1⟩ | ⟨_, d0, d1, d2⟩ | ⟨_, d0, d1, d2, d3⟩
              · go_wp2
                refine bodyPost_ret (v := zeroRules 2) ?_ rfl (rdPost_err HERR.out (below_res3 hbe _ _ _))
                rw [results_cell_tmp rfl]
                unfold zeroRules
                go_simp
              · go_wp2
                refine bodyPost_ret (v := zeroRules 2) ?_ rfl (rdPost_err HERR.out (below_res3 hbe _ _ _))
                rw [results_cell_tmp rfl]
                unfold zeroRules
                go_simp
              · go_wp2
                refine bodyPost_ret (v := zeroRules 2) ?_ rfl (rdPost_err HERR.out (below_res3 hbe _ _ _))
                rw [results_cell_tmp rfl]
                unfold zeroRules
                go_simp
              · go_wp2
                refine bodyPost_ret (v := zeroRules 2) ?_ rfl (rdPost_err HERR.out (below_res3 hbe _ _ _))
                rw [results_cell_tmp rfl]
                unfold zeroRules
                go_simp
        · have C1 : Hid _ := c1
          have C2 : Hid _ := c2
          unfold wShift at c1
          unfold wLevels at c2
          by_cases hl2 : k + 1 < ws.length
          · obtain ⟨y, hy⟩ : ∃ y, ws[k + 1]? = some y := ⟨_, List.getElem?_eq_getElem hl2⟩
            have hcy := HM.out.sr.cell (k + 1) y hy
            have HDR2 : Hid (readW (x :: y :: ws.drop (k + 1 + 1)) st = ans) := by show _ = _; rw [← drop_at hy]; exact HDR.out
            have he : ((k : Int) + 1 == (ws.length : Int)) = false := by simp; omega
            have hk9 : (k : Int) + 1 < (ws.length : Int) := by omega
            clear hy HDR
            by_cases z0 : y.size = 2
            · have z0' : ((y.size : Int) != 2) = false := by simp; omega
              have y0 : 0 < y.size := by omega
              have y1 : 1 < y.size := by omega
              have E0 := Dec.bt_get y 0 y0
              have E1 := Dec.bt_get y 1 y1
              have i3 : (y[0]'y0).toNat < 256 := (y[0]'y0).toNat_lt
              have i4 : (y[1]'y1).toNat < 256 := (y[1]'y1).toNat_lt
              by_cases z1 : 49 ≤ Dec.bt y 0
              · have i0 : ¬ ((y[0]'y0).toNat : Int) < 49 := by omega
                by_cases z2 : Dec.bt y 0 ≤ 52
                · have i1 : ¬ (52 : Int) < ((y[0]'y0).toNat : Int) := by omega
                  by_cases z3 : Dec.bt y 1 = 93
                  · have hlv := levN_yes ⟨z0, z1, z2, z3⟩
                    rw [← E0] at hlv
                    have HOK : Hid (readW (ws.drop (k + 1 + 1)) { st with lv := ((y[0]'y0).toNat : Int) - 48 } = ans) := by show _ = _; rw [← HDR2.out, readW_levs C1.out C2.out hlv]
                    have i2 : (((y[1]'y1).toNat : Int) != 93) = false := by simp; omega
                    have HM2 : Hid (StM _ _ _ _ _ _ _ _) := HM.out.setLv (((y[0]'y0).toNat : Int) - 48)
                    have hn4 : Hid (1 ≤ ((y[0]'y0).toNat : Int) - 48 ∧ ((y[0]'y0).toNat : Int) - 48 ≤ 4) := by show _ ∧ _; omega
                    clear HDR2 z1 z2 z3 E0 E1 hlv HM hbe C1 C2
                    go_wp2
                    exact ⟨⟨k + 1 + 1, { st with lv := ((y[0]'y0).toNat : Int) - 48 }, _, hl2, by go_num, rfl, HOK.out, ⟨rulesOk_lv HI.out.good hn4.out, HI.out.f0, HI.out.f1, HI.out.s0, HI.out.s1, HI.out.t0, HI.out.t1⟩, HM2.out⟩, by simp [intOf]; omega⟩
                  · have HERR : Hid (ans = .error 2) := by show _ = _; rw [← HDR2.out, readW_levn C1.out C2.out (levN_no fun h => z3 h.2.2.2)]
                    have i2 : (((y[1]'y1).toNat : Int) != 93) = true := by simp; omega
                    clear HDR2 z1 z2 z3 E0 E1 HM C1 C2
                    go_wp2
                    refine bodyPost_ret (v := zeroRules 2) ?_ rfl (rdPost_err HERR.out (below_res3 hbe _ _ _))
                    rw [results_cell_tmp rfl]
                    unfold zeroRules
                    go_simp
                · have HERR : Hid (ans = .error 2) := by show _ = _; rw [← HDR2.out, readW_levn C1.out C2.out (levN_no fun h => z2 h.2.2.1)]
                  have i1 : (52 : Int) < ((y[0]'y0).toNat : Int) := by omega
                  clear HDR2 z1 z2 E0 E1 HM C1 C2
                  go_wp2
                  refine bodyPost_ret (v := zeroRules 2) ?_ rfl (rdPost_err HERR.out (below_res3 hbe _ _ _))
                  rw [results_cell_tmp rfl]
                  unfold zeroRules
                  go_simp
              · have HERR : Hid (ans = .error 2) := by show _ = _; rw [← HDR2.out, readW_levn C1.out C2.out (levN_no fun h => z1 h.2.1)]
                have i0 : ((y[0]'y0).toNat : Int) < 49 := by omega
                clear HDR2 z1 E0 E1 HM C1 C2
                go_wp2
                refine bodyPost_ret (v := zeroRules 2) ?_ rfl (rdPost_err HERR.out (below_res3 hbe _ _ _))
                rw [results_cell_tmp rfl]
                unfold zeroRules
                go_simp
            · have HERR : Hid (ans = .error 2) := by show _ = _; rw [← HDR2.out, readW_levn C1.out C2.out (levN_no fun h => z0 h.1)]
              have z0' : ((y.size : Int) != 2) = true := by simp; omega
              clear HDR2 z0 HM C1 C2
              go_wp2
              refine bodyPost_ret (v := zeroRules 2) ?_ rfl (rdPost_err HERR.out (below_res3 hbe _ _ _))
              rw [results_cell_tmp rfl]
              unfold zeroRules
              go_simp
          · have HERR : Hid (ans = .error 2) := by show _ = _; rw [← HDR.out, drop_end (by omega), readW_lev0 C1.out C2.out]
            have he : ((k : Int) + 1 == (ws.length : Int)) = true := by simp; omega
            clear HDR HM C1 C2
            go_wp2
            refine bodyPost_ret (v := zeroRules 2) ?_ rfl (rdPost_err HERR.out (below_res3 hbe _ _ _))
            rw [results_cell_tmp rfl]
            unfold zeroRules
            go_simp
      · have HR2 : Hid (readW (ws.drop (k + 1)) { st with sh := true } = ans) := by
          show _ = _
          rw [← HDR.out, readW_shift c1]
        unfold wShift at c1
        have HM2 : Hid (StM _ _ _ _ _ _ _ _) := HM.out.setSh true
        clear HDR HM hbe
        go_wp2
        exact ⟨⟨k + 1, { st with sh := true }, _, hlt, by go_num, rfl, HR2.out, ⟨HI.out.good, HI.out.f0, HI.out.f1, HI.out.s0, HI.out.s1, HI.out.t0, HI.out.t1⟩, HM2.out⟩, by simp [intOf]; omega⟩
    · have hk3 : k = ws.length := by omega
      subst hk3
      have HA : Hid (ans = .ok st) := by show _ = _; rw [← HR.out, List.drop_length, readW_nil]
      have hE2 := ((((HM.out.en.grown (setCell_grown wr w.heap.size 0 (.slice ae st.es.length ce)) (by omega)).grown (setCell_grown _ w.heap.size 1 (.bool st.sh)) (by omega)).grown (setCell_grown _ w.heap.size 2 (.int .i64 st.lv)) (by omega))).low (B := w.heap.size) (by omega)
      have HE2 : Hid (Ents _ _ _ _) := hE2
      clear HR hE2 HM
      go_wp2
      refine bodyPost_ret (v := .tuple #[.agg #[.slice ae st.es.length ce, .bool st.sh, .int .i64 st.lv], .int .i64 0]) ?_ rfl ⟨_, by rw [HA.out]; rfl, by rw [HA.out]; exact HE2.out, below_res3 hbe _ _ _⟩
      rw [results_cell_tmp rfl]
      go_simp

theorem read_any (s : ByteArray) (w : World) (hs : s.size ≤ 1073741824) : Calls Tryd.prog 19 #[.string s] w fun e w' => RdPost w (readA s) e w' := by
  by_cases h : 300 < s.size
  · exact read_long s w h hs
  · exact read_short s w (by omega)
end Go.Proofs.YtanfebccenfffaaDoor
