/- Contract of the specification's l1One: it reads the front of a text as the plain function 'one' says. -/
import Derived.Test.YtinjldagfhbioaaGreatDoorFront
namespace Go.Proofs.YtinjldagfhbioaaGreatDoor
open Go.RowKit

theorem lead_m (b m : Nat) (hb : b < 256) (h1 : 1 ≤ m) (hm : Dec.more b = (m : Int)) (w : World) :
    Calls Tryz.prog 64 #[.int .u8 (b : Int)] w fun e w' => e = .returned (.tuple #[.int .i64 (m : Int), .int .u8 (Dec.lo1 b : Int), .int .u8 (Dec.hi1 b : Int)]) ∧ w' = w := by
  have h := lead_any b hb w
  have e1 : Dec.lo0 b = Dec.lo1 b := by unfold Dec.lo0; rw [hm, if_neg (by omega)]
  have e2 : Dec.hi0 b = Dec.hi1 b := by unfold Dec.hi0; rw [hm, if_neg (by omega)]
  rw [hm, e1, e2] at h
  exact h

theorem lead_0 (b : Nat) (hb : b < 256) (c : Int) (hc : c ≤ 0) (hm : Dec.more b = c) (w : World) :
    Calls Tryz.prog 64 #[.int .u8 (b : Int)] w fun e w' => e = .returned (.tuple #[.int .i64 c, .int .u8 0, .int .u8 0]) ∧ w' = w := by
  have h := lead_any b hb w
  have e1 : Dec.lo0 b = 0 := by unfold Dec.lo0; rw [hm, if_pos (by omega)]
  have e2 : Dec.hi0 b = 0 := by unfold Dec.hi0; rw [hm, if_pos (by omega)]
  rw [hm, e1, e2] at h
  exact h

theorem ret_iib {a a' c c' : Int} {b b' : Bool} (h1 : a = a') (h0 : c = c') (h2 : b = b') :
    Ending.returned (.tuple #[.int .i64 a, .int .i64 c, .bool b]) = .returned (.tuple #[.int .i64 a', .int .i64 c', .bool b']) := by rw [h1, h2, h0]

theorem wraps40 (n : Int) (h0 : 0 ≤ n) (h1 : n < 2 ^ 40) : IntKind.i64.wrap n = n := by
  have e : (2 : Int) ^ 40 = 1099511627776 := by decide
  rw [e] at h1; rw [IntKind.wrap_i64]; omega

theorem and_low (x i : Nat) (hi : i ≤ 6) (hx : x < 256) : bits .and .i64 (x : Int) (2 ^ i - 1) = ((x % 2 ^ i : Nat) : Int) := by
  have e : (2 : Int) ^ 40 = 1099511627776 := by decide
  rw [bits_mask .i64 40 (by decide) wraps40 i (by omega) (x : Int) (by omega) (by rw [e]; omega)]
  simp

theorem first_bits (x m : Nat) (hx : x < 256) (h1 : 1 ≤ m) (h3 : m ≤ 3) : bits .and .i64 (x : Int) (63 / 2 ^ m) = (Dec.first x m : Int) := by
  match m, h1, h3 with
  | 1, _, _ => exact and_low x 5 (by omega) hx
  | 2, _, _ => exact and_low x 4 (by omega) hx
  | 3, _, _ => exact and_low x 3 (by omega) hx

theorem join6 (r x : Nat) (hr : r < 262144) (hx : x < 256) : bits .or .i64 ((r : Int) * 64) (bits .and .i64 (x : Int) 63) = ((r * 64 + x % 64 : Nat) : Int) := by
  have e : (2 : Int) ^ 40 = 1099511627776 := by decide
  have e6 : (2 : Int) ^ 6 = 64 := by decide
  have h := and_low x 6 (by omega) hx
  have h63 : ((2 : Int) ^ 6 - 1) = 63 := by decide
  have h64 : 2 ^ 6 = 64 := by decide
  rw [h63, h64] at h
  rw [h, bits_join .i64 40 (by decide) wraps40 6 _ _ (by omega) (by rw [e6]; omega) (by rw [e]; omega) (by omega) (by rw [e6]; omega) (by rw [e]; omega)]
  omega

theorem pow_bd (k : Nat) (h : k ≤ 3) : 64 ^ k ≤ 262144 := by
  match k, h with
  | 0, _ => decide
  | 1, _ => decide
  | 2, _ => decide
  | 3, _ => decide

theorem first_lt (x m : Nat) (h1 : 1 ≤ m) (h3 : m ≤ 3) : Dec.first x m < 64 := by
  match m, h1, h3 with
  | 1, _, _ => show x % 32 < 64; omega
  | 2, _, _ => show x % 16 < 64; omega
  | 3, _, _ => show x % 8 < 64; omega

theorem one_end (t : ByteArray) (m k lo hi r : Nat) (o : Int × Nat × Bool) (h : Dec.goes t m (m + 1 - k) k lo hi r = o)
    (hk : k = m + 1) : (r : Int) = o.1 ∧ ((m : Int) + 1) = (o.2.1 : Int) ∧ true = o.2.2 := by
  subst hk
  rw [show m + 1 - (m + 1) = 0 by omega] at h
  subst h
  simp [Dec.goes]

theorem one_bad (t : ByteArray) (m k lo hi r : Nat) (o : Int × Nat × Bool) (h : Dec.goes t m (m + 1 - k) k lo hi r = o) (hk : k < m + 1)
    (hn : ¬ (k < t.size ∧ lo ≤ Dec.bt t k ∧ Dec.bt t k ≤ hi)) : (65533 : Int) = o.1 ∧ (k : Int) = (o.2.1 : Int) ∧ false = o.2.2 := by
  rw [show m + 1 - k = (m - k) + 1 by omega, Dec.goes_no hn] at h
  subst h
  exact ⟨rfl, rfl, rfl⟩

set_option maxRecDepth 100000 in
set_option maxHeartbeats 2000000 in
theorem one_any (t : ByteArray) (h0 : 0 < t.size) (ht : t.size ≤ maxLen) (w : World) :
    Calls Tryz.prog 43 #[.string t] w fun e w' => e = .returned (.tuple #[.int .i64 (Dec.one t).1, .int .i64 ((Dec.one t).2.1 : Int), .bool (Dec.one t).2.2]) ∧ w' = w := by
  unfold maxLen at ht
  have hb0 : (t[0]'h0).toNat < 256 := (t[0]'h0).toNat_lt
  have e0 := Dec.bt_get t 0 h0
  rcases Dec.more_cases (t[0]'h0).toNat with hm | hm | hm
  · have ho : Dec.one t = (65533, 1, false) := by unfold Dec.one; rw [← e0, hm]; rfl
    rw [ho]
    clear ho e0
    have F := fun w => lead_0 _ hb0 (-1) (by omega) hm w
    clear hm
    go_enter Tryz.func43, Tryz.ntmps43
    go_wp2_with (go_at_call 64; refine (F _).mono ?_; rintro e w' ⟨rfl, rfl⟩)
    go_ret3
    exact ⟨rfl, rfl⟩
  · have ho : Dec.one t = (((t[0]'h0).toNat : Int), 1, true) := by unfold Dec.one; rw [← e0, hm]; rfl
    rw [ho]
    clear ho e0
    have F := fun w => lead_0 _ hb0 0 (by omega) hm w
    clear hm
    go_enter Tryz.func43, Tryz.ntmps43
    go_wp2_with (go_at_call 64; refine (F _).mono ?_; rintro e w' ⟨rfl, rfl⟩)
    go_ret3
    exact ⟨rfl, rfl⟩
  · obtain ⟨m, hm1, hm3, hm⟩ : ∃ m : Nat, 1 ≤ m ∧ m ≤ 3 ∧ Dec.more (t[0]'h0).toNat = (m : Int) := by
      rcases hm with h | h | h
      · exact ⟨1, by omega, by omega, h⟩
      · exact ⟨2, by omega, by omega, h⟩
      · exact ⟨3, by omega, by omega, h⟩
    have HO : Hid (Dec.goes t m m 1 (Dec.lo1 (t[0]'h0).toNat) (Dec.hi1 (t[0]'h0).toNat) (Dec.first (t[0]'h0).toNat m) = Dec.one t) := by
      show _ = _
      unfold Dec.one
      rw [← e0, hm, if_neg (by omega)]
      rfl
    have F := fun w => lead_m _ m hb0 hm1 hm w
    clear hm e0
    generalize Dec.one t = o at *
    have hl1 : Dec.lo1 (t[0]'h0).toNat < 256 := by unfold Dec.lo1; repeat' split
                                                   all_goals omega
    have hh1 : Dec.hi1 (t[0]'h0).toNat < 256 := by unfold Dec.hi1; repeat' split
                                                   all_goals omega
    go_enter Tryz.func43, Tryz.ntmps43
    go_wp2_with (go_at_call 64; refine (F _).mono ?_; rintro e w' ⟨rfl, rfl⟩)
    have HF : Hid _ := first_bits (t[0]'h0).toNat m hb0 hm1 hm3
    have hfl := first_lt (t[0]'h0).toNat m hm1 hm3
    go_loop [6, 7, 8, 9] (fun lo hi a k => ∃ k' lo' hi' r : Nat, 1 ≤ k' ∧ k' ≤ m + 1 ∧ k' ≤ t.size ∧ lo' < 256 ∧ hi' < 256 ∧ r < 64 ^ k' ∧ k = .int .i64 k' ∧ lo = .int .u8 lo' ∧ hi = .int .u8 hi' ∧ a = .int .i64 r ∧ Hid (Dec.goes t m (m + 1 - k') k' lo' hi' r = o)) (fun _ _ _ k => m + 1 - (intOf k).toNat)
    case atStart => exact ⟨1, _, _, _, by omega, by omega, by omega, hl1, hh1, by omega, rfl, rfl, rfl, by rw [HF.out], HO⟩
    case round =>
      obtain ⟨k, lo, hi, r, hk1, hk2, hk3, hlo, hhi, hr, rfl, rfl, rfl, rfl, HG⟩ := hrel
      clear HO F HF hfl
      by_cases c1 : k < m + 1
      · have hr2 : r < 262144 := Nat.lt_of_lt_of_le hr (pow_bd k (by omega))
        by_cases c2 : k < t.size
        · have EK : Hid (Dec.bt t k = (t[k]'c2).toNat) := (Dec.bt_get t k c2).symm
          have hbk : (t[k]'c2).toNat < 256 := (t[k]'c2).toNat_lt
          have hke : ((k : Int) == (t.size : Int)) = false := by simp; omega
          by_cases c3 : (lo : Int) ≤ ((t[k]'c2).toNat : Int)
          · by_cases c4 : ((t[k]'c2).toNat : Int) ≤ (hi : Int)
            · have HS : Hid _ := front_step t m k lo hi r o HG.out c1 ⟨c2, by rw [EK.out]; omega⟩
              have HJ : Hid _ := join6 r (t[k]'c2).toNat hr2 hbk
              have HR : Hid (r < 64 ^ k) := hr
              clear hr
              go_wp2
              go_round
              case rel =>
                (repeat apply Exists.intro)
                refine ⟨?_, rfl, rfl, rfl, rfl, rfl, rfl, rfl⟩
                exact ⟨k + 1, by omega, by omega, by omega, 128, by omega, 191, by omega, r * 64 + Dec.bt t k % 64, by have := HR.out; rw [Nat.pow_succ]; omega, by go_num, rfl, rfl, by rw [EK.out, HJ.out], HS⟩
              case measure => simp [intOf]; omega
            · have HS : Hid _ := one_bad t m k lo hi r o HG.out c1 (by rw [EK.out]; omega)
              go_wp2
              go_ret3
              exact ⟨ret_iib HS.out.1 HS.out.2.1 HS.out.2.2, rfl⟩
          · have HS : Hid _ := one_bad t m k lo hi r o HG.out c1 (by rw [EK.out]; omega)
            go_wp2
            go_ret3
            exact ⟨ret_iib HS.out.1 HS.out.2.1 HS.out.2.2, rfl⟩
        · have HS : Hid _ := one_bad t m k lo hi r o HG.out c1 (by omega)
          have hke : ((k : Int) == (t.size : Int)) = true := by simp; omega
          go_wp2
          go_ret3
          exact ⟨ret_iib HS.out.1 HS.out.2.1 HS.out.2.2, rfl⟩
      · have HS : Hid _ := one_end t m k lo hi r o HG.out (by omega)
        go_wp2
        go_ret3
        exact ⟨ret_iib HS.out.1 HS.out.2.1 HS.out.2.2, rfl⟩
end Go.Proofs.YtinjldagfhbioaaGreatDoor
