/- Texts of mine laid together: One, Rn4, INorm2, Front, OneAt, Decode, Read, ImplD, DGood, IApartT, IGood3, Norm3. -/
import Derived.Test.YtddelohmppdndaaGreatDoorProg
import Derived.Test.YtddelohmppdndaaGreatDoorMF2
import Derived.WalkKit
import Derived.WalkSpells
import Derived.WalkLawsBesides
import Derived.Test.YtddelohmppdndaaGreatDoorNorm2
import Derived.Test.YtddelohmppdndaaGreatDoorIFull
import Derived.Test.YtddelohmppdndaaGreatDoorInts
import Derived.Lib.OthersKept
import Derived.WalkSmall
import Derived.Test.YtddelohmppdndaaGreatDoorGood
import Derived.Test.YtddelohmppdndaaGreatDoorIRule1
import Derived.Test.YtddelohmppdndaaGreatDoorIEntry
import Derived.Deep.RegionHeld3
namespace Go.Proofs.YtddelohmppdndaaGreatDoor
open Go.RowKit

theorem ret3 {a a' b b' c c' : Int} (h1 : a = a') (h2 : b = b') (h3 : c = c') :
    Ending.returned (.tuple #[.int .i64 a, .int .u8 b, .int .u8 c]) = .returned (.tuple #[.int .i64 a', .int .u8 b', .int .u8 c']) := by rw [h1, h2, h3]

set_option maxHeartbeats 1000000 in
theorem form_any (b : Nat) (hb : b < 256) (w : World) :
    Calls Tryz.prog 57 #[.int .u8 (b : Int)] w fun e w' => e = .returned (.tuple #[.int .i64 (Dec.more b + 1), .int .u8 (Dec.lo1 b : Int), .int .u8 (Dec.hi1 b : Int)]) ∧ w' = w := by
  go_enter Tryz.func57, Tryz.ntmps57
  go_wp2
  all_goals
    go_ret3
    refine ⟨ret3 ?_ ?_ ?_, rfl⟩
    all_goals
      try simp only [beq_iff_eq, beq_eq_false_iff_ne, ne_eq] at *
      simp only [Dec.more, Dec.lo1, Dec.hi1]
      repeat' split
      all_goals omega

set_option maxRecDepth 100000 in
set_option maxHeartbeats 1000000 in
theorem lead_any (b : Nat) (hb : b < 256) (w : World) :
    Calls Tryz.prog 50 #[.int .u8 (b : Int)] w fun e w' => e = .returned (.tuple #[.int .i64 (Dec.more b), .int .u8 (Dec.lo0 b : Int), .int .u8 (Dec.hi0 b : Int)]) ∧ w' = w := by
  go_enter Tryz.func50, Tryz.ntmps50
  go_wp2
  all_goals
    go_ret3
    refine ⟨ret3 ?_ ?_ ?_, rfl⟩
    all_goals
      try simp only [beq_iff_eq, beq_eq_false_iff_ne, ne_eq] at *
      simp only [Dec.more, Dec.lo0, Dec.hi0, Dec.lo1, Dec.hi1]
      repeat' split
      all_goals omega
end Go.Proofs.YtddelohmppdndaaGreatDoor

namespace Go.Proofs.YtddelohmppdndaaGreatDoor

/-- A text's runes, taken apart. -/
def rn4 (s : ByteArray) : List Int := nD (Dec.decT s.size s).1
/-- Whether a text is one of chapter 4's. -/
def ok4 (s : ByteArray) : Bool := decide (s.size ≤ 200 ∧ (rn4 s).length ≤ 200)
end Go.Proofs.YtddelohmppdndaaGreatDoor

namespace Go.Proofs.YtddelohmppdndaaGreatDoor
open Go.RowKit

theorem okD_eq {zs : List Int} (h : okR zs = true) : okD zs = decide ((nD zs).length ≤ 200) := by
  unfold okD
  rw [h, Bool.true_and, nD_len]

set_option maxRecDepth 100000 in
set_option maxHeartbeats 2000000 in
theorem implD_any {w : World} {B : Nat} {v : Value} {zs : List Int} (_hz : zs.length ≤ 1048576) (hI : Ints w B v zs) (hm : Held w 0 marksF) (hc : Held w 1 capF) (ho : Held w 2 othF) :
    Calls Tryz.prog 56 #[v] w fun e w' => ∃ v', e = .returned (.tuple #[v', .bool (okD zs)]) ∧ Ints w' w.heap.size v' (ansD zs) ∧ Below w.heap.size w w' := by
  have F := fullD_any hI hm hc ho
  have hlen := fullA_len zs
  unfold ansD
  clear hI hm hc ho
  cases hok : okR zs
  · rw [hok] at F
    rw [okD_no hok, if_neg (by simp)]
    clear hok hlen
    go_enter Tryz.func56, Tryz.ntmps56
    go_wp2_with fail
    refine F.mono ?_
    rintro e w1 ⟨v1, rfl, h1, h2⟩
    clear F
    go_wp2
    go_ret2
    exact ⟨_, rfl, ⟨rfl, .inl ⟨rfl, rfl⟩⟩, h2⟩
  · rw [hok] at F
    unfold fullA at F hlen
    rw [okD_eq hok]
    rw [hok, if_pos rfl] at F hlen
    clear hok
    generalize nD zs = ds at *
    by_cases hl : ds.length ≤ 200
    · have hl2 : ¬ (200 : Int) < (ds.length : Int) := by omega
      rw [decide_eq_true hl, if_pos rfl]
      go_enter Tryz.func56, Tryz.ntmps56
      go_wp2_with fail
      refine F.mono ?_
      rintro e w1 ⟨v1, rfl, h1, h2⟩
      clear F
      rcases h1.form with ⟨rfl, rfl⟩ | ⟨g, cap, rfl, _, _⟩
      · go_wp2
        go_ret2
        exact ⟨_, rfl, h1, h2⟩
      · go_wp2
        go_ret2
        exact ⟨_, rfl, h1, h2⟩
    · have hl2 : (200 : Int) < (ds.length : Int) := by omega
      rw [decide_eq_false hl, if_neg (by simp)]
      go_enter Tryz.func56, Tryz.ntmps56
      go_wp2_with fail
      refine F.mono ?_
      rintro e w1 ⟨v1, rfl, h1, h2⟩
      clear F
      rcases h1.form with ⟨rfl, rfl⟩ | ⟨g, cap, rfl, _, _⟩
      · exact absurd (by simp) hl
      · go_wp2
        go_ret2
        exact ⟨_, rfl, ⟨rfl, .inl ⟨rfl, rfl⟩⟩, h2⟩
end Go.Proofs.YtddelohmppdndaaGreatDoor

namespace Go.Proofs.YtddelohmppdndaaGreatDoor
open Go.RowKit

theorem form_m (b m : Nat) (hb : b < 256) (hm : Dec.more b = (m : Int)) (w : World) :
    Calls Tryz.prog 57 #[.int .u8 (b : Int)] w fun e w' => e = .returned (.tuple #[.int .i64 ((m : Int) + 1), .int .u8 (Dec.lo1 b : Int), .int .u8 (Dec.hi1 b : Int)]) ∧ w' = w := by
  have h := form_any b hb w
  rw [hm] at h
  exact h

theorem form_no (b : Nat) (hb : b < 256) (hm : Dec.more b = -1) (w : World) :
    Calls Tryz.prog 57 #[.int .u8 (b : Int)] w fun e w' => e = .returned (.tuple #[.int .i64 0, .int .u8 (Dec.lo1 b : Int), .int .u8 (Dec.hi1 b : Int)]) ∧ w' = w := by
  have h := form_any b hb w
  rw [hm] at h
  exact h

theorem ret_ib {a a' : Int} {b b' : Bool} (h1 : a = a') (h2 : b = b') :
    Ending.returned (.tuple #[.int .i64 a, .bool b]) = .returned (.tuple #[.int .i64 a', .bool b']) := by rw [h1, h2]

theorem front_end (t : ByteArray) (m k lo hi r : Nat) (o : Int × Nat × Bool) (h : Dec.goes t m (m + 1 - k) k lo hi r = o) (hk : k ≤ m + 1)
    (hn : ¬ k < m + 1 ∨ ¬ (k < t.size ∧ lo ≤ Dec.bt t k ∧ Dec.bt t k ≤ hi)) : (k : Int) = (o.2.1 : Int) ∧ ((k : Int) == (m : Int) + 1) = o.2.2 := by
  by_cases c : k < m + 1
  · have hn' : ¬ (k < t.size ∧ lo ≤ Dec.bt t k ∧ Dec.bt t k ≤ hi) := by rcases hn with h | h; exact absurd c h; exact h
    rw [show m + 1 - k = (m - k) + 1 by omega, Dec.goes_no hn'] at h
    subst h
    refine ⟨rfl, ?_⟩
    simp; omega
  · have : k = m + 1 := by omega
    subst this
    rw [show m + 1 - (m + 1) = 0 by omega] at h
    subst h
    simp [Dec.goes]

theorem front_step (t : ByteArray) (m k lo hi r : Nat) (o : Int × Nat × Bool) (h : Dec.goes t m (m + 1 - k) k lo hi r = o) (hk : k < m + 1)
    (hy : k < t.size ∧ lo ≤ Dec.bt t k ∧ Dec.bt t k ≤ hi) : Dec.goes t m (m + 1 - (k + 1)) (k + 1) 128 191 (r * 64 + Dec.bt t k % 64) = o := by
  rw [show m + 1 - k = (m + 1 - (k + 1)) + 1 by omega, Dec.goes_yes _ rfl hy] at h
  exact h

set_option maxRecDepth 100000 in
set_option maxHeartbeats 1000000 in
theorem front_any (t : ByteArray) (h0 : 0 < t.size) (ht : t.size ≤ maxLen) (w : World) :
    Calls Tryz.prog 39 #[.string t] w fun e w' => e = .returned (.tuple #[.int .i64 ((Dec.one t).2.1 : Int), .bool (Dec.one t).2.2]) ∧ w' = w := by
  unfold maxLen at ht
  have hb0 : (t[0]'h0).toNat < 256 := (t[0]'h0).toNat_lt
  have e0 := Dec.bt_get t 0 h0
  rcases Dec.more_cases (t[0]'h0).toNat with hm | hm
  · have ho : Dec.one t = (65533, 1, false) := by unfold Dec.one; rw [← e0, hm]; rfl
    rw [ho]
    clear ho e0
    have F := fun w => form_no _ hb0 hm w
    clear hm
    go_enter Tryz.func39, Tryz.ntmps39
    go_wp2_with (go_at_call 57; refine (F _).mono ?_; rintro e w' ⟨rfl, rfl⟩)
    go_loop [5, 6, 7] (fun _ _ k => k = .int .i64 1) (fun _ _ _ => 0)
    case atStart => rfl
    case round =>
      subst hrel
      go_wp2
      go_ret2
      exact ⟨rfl, rfl⟩
  · obtain ⟨m, hm3, hm⟩ : ∃ m : Nat, m ≤ 3 ∧ Dec.more (t[0]'h0).toNat = (m : Int) := by
      rcases hm with h | h | h | h
      · exact ⟨0, by omega, h⟩
      · exact ⟨1, by omega, h⟩
      · exact ⟨2, by omega, h⟩
      · exact ⟨3, by omega, h⟩
    have HO : Hid (Dec.goes t m m 1 (Dec.lo1 (t[0]'h0).toNat) (Dec.hi1 (t[0]'h0).toNat) (Dec.first (t[0]'h0).toNat m) = Dec.one t) := by
      show _ = _
      unfold Dec.one
      rw [← e0, hm, if_neg (by omega)]
      rfl
    have F := fun w => form_m _ m hb0 hm w
    clear hm e0
    generalize Dec.one t = o at *
    have hl1 : Dec.lo1 (t[0]'h0).toNat < 256 := by unfold Dec.lo1; repeat' split
                                                   all_goals omega
    have hh1 : Dec.hi1 (t[0]'h0).toNat < 256 := by unfold Dec.hi1; repeat' split
                                                   all_goals omega
    go_enter Tryz.func39, Tryz.ntmps39
    go_wp2_with (go_at_call 57; refine (F _).mono ?_; rintro e w' ⟨rfl, rfl⟩)
    go_loop [5, 6, 7] (fun lo hi k => ∃ k' lo' hi' r : Nat, 1 ≤ k' ∧ k' ≤ m + 1 ∧ k' ≤ t.size ∧ lo' < 256 ∧ hi' < 256 ∧ k = .int .i64 k' ∧ lo = .int .u8 lo' ∧ hi = .int .u8 hi' ∧ Hid (Dec.goes t m (m + 1 - k') k' lo' hi' r = o)) (fun _ _ k => m + 1 - (intOf k).toNat)
    case atStart => exact ⟨1, _, _, _, by omega, by omega, by omega, hl1, hh1, rfl, rfl, rfl, HO⟩
    case round =>
      obtain ⟨k, lo, hi, r, hk1, hk2, hk3, hlo, hhi, rfl, rfl, rfl, HG⟩ := hrel
      clear HO F
      by_cases c1 : k < m + 1
      · by_cases c2 : k < t.size
        · have ek := Dec.bt_get t k c2
          have EK : Hid (Dec.bt t k = (t[k]'c2).toNat) := ek.symm
          clear ek
          have hbk : (t[k]'c2).toNat < 256 := (t[k]'c2).toNat_lt
          by_cases c3 : (lo : Int) ≤ ((t[k]'c2).toNat : Int)
          · by_cases c4 : ((t[k]'c2).toNat : Int) ≤ (hi : Int)
            · have HS : Hid _ := front_step t m k lo hi r o HG.out c1 ⟨c2, by rw [EK.out]; omega⟩
              go_wp2
              go_round
              case rel => exact ⟨k + 1, 128, 191, _, by omega, by omega, by omega, by omega, by omega, by go_num, rfl, rfl, HS⟩
              case measure => simp [intOf]; omega
            · have HS := front_end t m k lo hi r o HG.out hk2 (.inr (by rw [EK.out]; omega))
              have HS' : Hid _ := HS
              clear HS
              go_wp2
              go_ret2
              exact ⟨ret_ib HS'.out.1 HS'.out.2, rfl⟩
          · have HS' : Hid _ := front_end t m k lo hi r o HG.out hk2 (.inr (by rw [EK.out]; omega))
            go_wp2
            go_ret2
            exact ⟨ret_ib HS'.out.1 HS'.out.2, rfl⟩
        · have HS' : Hid _ := front_end t m k lo hi r o HG.out hk2 (.inr (by omega))
          go_wp2
          go_ret2
          exact ⟨ret_ib HS'.out.1 HS'.out.2, rfl⟩
      · have HS' : Hid _ := front_end t m k lo hi r o HG.out hk2 (.inl c1)
        go_wp2
        go_ret2
        exact ⟨ret_ib HS'.out.1 HS'.out.2, rfl⟩
end Go.Proofs.YtddelohmppdndaaGreatDoor

namespace Go.Proofs.YtddelohmppdndaaGreatDoor
open Go.RowKit

theorem lead_m (b m : Nat) (hb : b < 256) (h1 : 1 ≤ m) (hm : Dec.more b = (m : Int)) (w : World) :
    Calls Tryz.prog 50 #[.int .u8 (b : Int)] w fun e w' => e = .returned (.tuple #[.int .i64 (m : Int), .int .u8 (Dec.lo1 b : Int), .int .u8 (Dec.hi1 b : Int)]) ∧ w' = w := by
  have h := lead_any b hb w
  have e1 : Dec.lo0 b = Dec.lo1 b := by unfold Dec.lo0; rw [hm, if_neg (by omega)]
  have e2 : Dec.hi0 b = Dec.hi1 b := by unfold Dec.hi0; rw [hm, if_neg (by omega)]
  rw [hm, e1, e2] at h
  exact h

theorem lead_0 (b : Nat) (hb : b < 256) (c : Int) (hc : c ≤ 0) (hm : Dec.more b = c) (w : World) :
    Calls Tryz.prog 50 #[.int .u8 (b : Int)] w fun e w' => e = .returned (.tuple #[.int .i64 c, .int .u8 0, .int .u8 0]) ∧ w' = w := by
  have h := lead_any b hb w
  have e1 : Dec.lo0 b = 0 := by unfold Dec.lo0; rw [hm, if_pos (by omega)]
  have e2 : Dec.hi0 b = 0 := by unfold Dec.hi0; rw [hm, if_pos (by omega)]
  rw [hm, e1, e2] at h
  exact h

theorem ret_iib {a a' c c' : Int} {b b' : Bool} (h1 : a = a') (h0 : c = c') (h2 : b = b') :
    Ending.returned (.tuple #[.int .i64 a, .int .i64 c, .bool b]) = .returned (.tuple #[.int .i64 a', .int .i64 c', .bool b']) := by rw [h1, h2, h0]

theorem wraps40 (n : Int) (h0 : 0 ≤ n) (h1 : n < 2 ^ 40) : IntKind.i64.wrap n = n := by
  have e : (2 : Int) ^ 40 = 1099511627776 := by decide
  rw [e] at h1; rw [IntKind.wrap_i64]; omega

theorem and_low (x i : Nat) (hi : i ≤ 6) (hx : x < 256) : bits .and .i64 (x : Int) (2 ^ i - 1) = ((x % 2 ^ i : Nat) : Int) := by
  have e : (2 : Int) ^ 40 = 1099511627776 := by decide
  rw [bits_mask .i64 40 (by decide) wraps40 i (by omega) (x : Int) (by omega) (by rw [e]; omega)]
  simp

theorem first_bits (x m : Nat) (hx : x < 256) (h1 : 1 ≤ m) (h3 : m ≤ 3) : bits .and .i64 (x : Int) (63 / 2 ^ m) = (Dec.first x m : Int) := by
  match m, h1, h3 with
  | 1, _, _ => exact and_low x 5 (by omega) hx
  | 2, _, _ => exact and_low x 4 (by omega) hx
  | 3, _, _ => exact and_low x 3 (by omega) hx

theorem join6 (r x : Nat) (hr : r < 262144) (hx : x < 256) : bits .or .i64 ((r : Int) * 64) (bits .and .i64 (x : Int) 63) = ((r * 64 + x % 64 : Nat) : Int) := by
  have e : (2 : Int) ^ 40 = 1099511627776 := by decide
  have e6 : (2 : Int) ^ 6 = 64 := by decide
  have h := and_low x 6 (by omega) hx
  have h63 : ((2 : Int) ^ 6 - 1) = 63 := by decide
  have h64 : 2 ^ 6 = 64 := by decide
  rw [h63, h64] at h
  rw [h, bits_join .i64 40 (by decide) wraps40 6 _ _ (by omega) (by rw [e6]; omega) (by rw [e]; omega) (by omega) (by rw [e6]; omega) (by rw [e]; omega)]
  omega

theorem pow_bd (k : Nat) (h : k ≤ 3) : 64 ^ k ≤ 262144 := by
  match k, h with
  | 0, _ => decide
  | 1, _ => decide
  | 2, _ => decide
  | 3, _ => decide

theorem first_lt (x m : Nat) (h1 : 1 ≤ m) (h3 : m ≤ 3) : Dec.first x m < 64 := by
  match m, h1, h3 with
  | 1, _, _ => show x % 32 < 64; omega
  | 2, _, _ => show x % 16 < 64; omega
  | 3, _, _ => show x % 8 < 64; omega

theorem one_end (t : ByteArray) (m k lo hi r : Nat) (o : Int × Nat × Bool) (h : Dec.goes t m (m + 1 - k) k lo hi r = o)
    (hk : k = m + 1) : (r : Int) = o.1 ∧ ((m : Int) + 1) = (o.2.1 : Int) ∧ true = o.2.2 := by
  subst hk
  rw [show m + 1 - (m + 1) = 0 by omega] at h
  subst h
  simp [Dec.goes]

theorem one_bad (t : ByteArray) (m k lo hi r : Nat) (o : Int × Nat × Bool) (h : Dec.goes t m (m + 1 - k) k lo hi r = o) (hk : k < m + 1)
    (hn : ¬ (k < t.size ∧ lo ≤ Dec.bt t k ∧ Dec.bt t k ≤ hi)) : (65533 : Int) = o.1 ∧ (k : Int) = (o.2.1 : Int) ∧ false = o.2.2 := by
  rw [show m + 1 - k = (m - k) + 1 by omega, Dec.goes_no hn] at h
  subst h
  exact ⟨rfl, rfl, rfl⟩

set_option maxRecDepth 100000 in
set_option maxHeartbeats 2000000 in
theorem one_any (t : ByteArray) (h0 : 0 < t.size) (ht : t.size ≤ maxLen) (w : World) :
    Calls Tryz.prog 33 #[.string t] w fun e w' => e = .returned (.tuple #[.int .i64 (Dec.one t).1, .int .i64 ((Dec.one t).2.1 : Int), .bool (Dec.one t).2.2]) ∧ w' = w := by
  unfold maxLen at ht
  have hb0 : (t[0]'h0).toNat < 256 := (t[0]'h0).toNat_lt
  have e0 := Dec.bt_get t 0 h0
  rcases Dec.more_cases (t[0]'h0).toNat with hm | hm | hm
  · have ho : Dec.one t = (65533, 1, false) := by unfold Dec.one; rw [← e0, hm]; rfl
    rw [ho]
    clear ho e0
    have F := fun w => lead_0 _ hb0 (-1) (by omega) hm w
    clear hm
    go_enter Tryz.func33, Tryz.ntmps33
    go_wp2_with (go_at_call 50; refine (F _).mono ?_; rintro e w' ⟨rfl, rfl⟩)
    go_ret3
    exact ⟨rfl, rfl⟩
  · have ho : Dec.one t = (((t[0]'h0).toNat : Int), 1, true) := by unfold Dec.one; rw [← e0, hm]; rfl
    rw [ho]
    clear ho e0
    have F := fun w => lead_0 _ hb0 0 (by omega) hm w
    clear hm
    go_enter Tryz.func33, Tryz.ntmps33
    go_wp2_with (go_at_call 50; refine (F _).mono ?_; rintro e w' ⟨rfl, rfl⟩)
    go_ret3
    exact ⟨rfl, rfl⟩
  · obtain ⟨m, hm1, hm3, hm⟩ : ∃ m : Nat, 1 ≤ m ∧ m ≤ 3 ∧ Dec.more (t[0]'h0).toNat = (m : Int) := by
      rcases hm with h | h | h
      · exact ⟨1, by omega, by omega, h⟩
      · exact ⟨2, by omega, by omega, h⟩
      · exact ⟨3, by omega, by omega, h⟩
    have HO : Hid (Dec.goes t m m 1 (Dec.lo1 (t[0]'h0).toNat) (Dec.hi1 (t[0]'h0).toNat) (Dec.first (t[0]'h0).toNat m) = Dec.one t) := by
      show _ = _
      unfold Dec.one
      rw [← e0, hm, if_neg (by omega)]
      rfl
    have F := fun w => lead_m _ m hb0 hm1 hm w
    clear hm e0
    generalize Dec.one t = o at *
    have hl1 : Dec.lo1 (t[0]'h0).toNat < 256 := by unfold Dec.lo1; repeat' split
                                                   all_goals omega
    have hh1 : Dec.hi1 (t[0]'h0).toNat < 256 := by unfold Dec.hi1; repeat' split
                                                   all_goals omega
    go_enter Tryz.func33, Tryz.ntmps33
    go_wp2_with (go_at_call 50; refine (F _).mono ?_; rintro e w' ⟨rfl, rfl⟩)
    have HF : Hid _ := first_bits (t[0]'h0).toNat m hb0 hm1 hm3
    have hfl := first_lt (t[0]'h0).toNat m hm1 hm3
    go_loop [6, 7, 8, 9] (fun lo hi a k => ∃ k' lo' hi' r : Nat, 1 ≤ k' ∧ k' ≤ m + 1 ∧ k' ≤ t.size ∧ lo' < 256 ∧ hi' < 256 ∧ r < 64 ^ k' ∧ k = .int .i64 k' ∧ lo = .int .u8 lo' ∧ hi = .int .u8 hi' ∧ a = .int .i64 r ∧ Hid (Dec.goes t m (m + 1 - k') k' lo' hi' r = o)) (fun _ _ _ k => m + 1 - (intOf k).toNat)
    case atStart => exact ⟨1, _, _, _, by omega, by omega, by omega, hl1, hh1, by omega, rfl, rfl, rfl, by rw [HF.out], HO⟩
    case round =>
      obtain ⟨k, lo, hi, r, hk1, hk2, hk3, hlo, hhi, hr, rfl, rfl, rfl, rfl, HG⟩ := hrel
      clear HO F HF hfl
      by_cases c1 : k < m + 1
      · have hr2 : r < 262144 := Nat.lt_of_lt_of_le hr (pow_bd k (by omega))
        by_cases c2 : k < t.size
        · have EK : Hid (Dec.bt t k = (t[k]'c2).toNat) := (Dec.bt_get t k c2).symm
          have hbk : (t[k]'c2).toNat < 256 := (t[k]'c2).toNat_lt
          have hke : ((k : Int) == (t.size : Int)) = false := by simp; omega
          by_cases c3 : (lo : Int) ≤ ((t[k]'c2).toNat : Int)
          · by_cases c4 : ((t[k]'c2).toNat : Int) ≤ (hi : Int)
            · have HS : Hid _ := front_step t m k lo hi r o HG.out c1 ⟨c2, by rw [EK.out]; omega⟩
              have HJ : Hid _ := join6 r (t[k]'c2).toNat hr2 hbk
              have HR : Hid (r < 64 ^ k) := hr
              clear hr
              go_wp2
              go_round
              case rel =>
                (repeat apply Exists.intro)
                refine ⟨?_, rfl, rfl, rfl, rfl, rfl, rfl, rfl⟩
                exact ⟨k + 1, by omega, by omega, by omega, 128, by omega, 191, by omega, r * 64 + Dec.bt t k % 64, by have := HR.out; rw [Nat.pow_succ]; omega, by go_num, rfl, rfl, by rw [EK.out, HJ.out], HS⟩
              case measure => simp [intOf]; omega
            · have HS : Hid _ := one_bad t m k lo hi r o HG.out c1 (by rw [EK.out]; omega)
              go_wp2
              go_ret3
              exact ⟨ret_iib HS.out.1 HS.out.2.1 HS.out.2.2, rfl⟩
          · have HS : Hid _ := one_bad t m k lo hi r o HG.out c1 (by rw [EK.out]; omega)
            go_wp2
            go_ret3
            exact ⟨ret_iib HS.out.1 HS.out.2.1 HS.out.2.2, rfl⟩
        · have HS : Hid _ := one_bad t m k lo hi r o HG.out c1 (by omega)
          have hke : ((k : Int) == (t.size : Int)) = true := by simp; omega
          go_wp2
          go_ret3
          exact ⟨ret_iib HS.out.1 HS.out.2.1 HS.out.2.2, rfl⟩
      · have HS : Hid _ := one_end t m k lo hi r o HG.out (by omega)
        go_wp2
        go_ret3
        exact ⟨ret_iib HS.out.1 HS.out.2.1 HS.out.2.2, rfl⟩
end Go.Proofs.YtddelohmppdndaaGreatDoor

namespace Go.Proofs.YtddelohmppdndaaGreatDoor
open Go.RowKit

def strLen : Value → Nat
  | .string t => t.size
  | _ => 0

def DecRel (s : ByteArray) (w : World) (sv v b : Value) (wr : World) : Prop :=
  ∃ (t : ByteArray) (f bad : Nat) (acc : List Int), sv = .string t ∧ b = .int .i64 bad ∧ Ints wr w.heap.size v acc ∧ Below w.heap.size w wr ∧
    acc ++ (Dec.decT f t).1 = (Dec.decT s.size s).1 ∧ bad + (Dec.decT f t).2 = (Dec.decT s.size s).2 ∧ t.size ≤ f ∧ acc.length + t.size ≤ s.size ∧ bad + t.size ≤ s.size

theorem decT_step {t : ByteArray} {r : Int} {n : Nat} {ok : Bool} (h0 : 0 < t.size) (ho : Dec.one t = (r, n, ok)) (f : Nat) :
    Dec.decT (f + 1) t = (r :: (Dec.decT f (t.extract n t.size)).1, (Dec.decT f (t.extract n t.size)).2 + (if ok then 0 else 1)) := by
  simp only [Dec.decT, if_pos h0, ho]

theorem ret_v {v : Value} {a a' : Int} (h : a = a') : Ending.returned (.tuple #[v, .int .i64 a]) = .returned (.tuple #[v, .int .i64 a']) := by rw [h]

set_option maxRecDepth 100000 in
set_option maxHeartbeats 2000000 in
theorem l1Decode_any (s : ByteArray) (w : World) (hs : s.size ≤ 1073741824) :
    Calls Tryz.prog 28 #[.string s] w fun e w' => ∃ v, e = .returned (.tuple #[v, .int .i64 ((Dec.decT s.size s).2 : Int)]) ∧ Ints w' w.heap.size v (Dec.decT s.size s).1 ∧ Below w.heap.size w w' := by
  obtain ⟨i0, hi, hz0, hz1, hz2⟩ := info_parts info_int
  go_enter Tryz.func28, Tryz.ntmps28
  go_wp2
  go_loopw [0, 4, 5] (fun sv v b wr => DecRel s w sv v b wr) (fun sv _ _ _ => strLen sv)
  case atStart => exact ⟨s, s.size, 0, [], rfl, rfl, World.ownsRow_nil _ _ _ _, Below.refl _ _, by simp, by simp, Nat.le_refl _, by simp, by simp⟩
  case round =>
    obtain ⟨t, f, bad, acc, rfl, rfl, hown, hbw, hA, hB, hf, hal, hbl⟩ := hrel
    have HA : Hid _ := hA
    have HB : Hid _ := hB
    clear hA hB
    unfold Ints at hown
    by_cases hp : 0 < t.size
    · obtain ⟨r, n, ok, HO⟩ : ∃ r n ok, Hid (Dec.one t = (r, n, ok)) := ⟨_, _, _, rfl⟩
      have hn := Dec.one_le t hp
      rw [HO.out] at hn
      have hn1 : 1 ≤ n := hn.1
      have hn2 : n ≤ t.size := hn.2
      clear hn
      have O := fun w => one_any t hp (by unfold maxLen; omega) w
      rw [HO.out] at O
      obtain ⟨f', rfl⟩ : ∃ f', f = f' + 1 := ⟨f - 1, by omega⟩
      have hds := decT_step hp HO.out f'
      have HA' : Hid _ := HA.out
      have HB' : Hid _ := HB.out
      unfold Hid at HA' HB'
      rw [hds] at HA' HB'
      have HA2 : Hid _ := HA'
      have HB2 : Hid _ := HB'
      clear HA' HB' hds HA HB
      have hsz := hbw.size
      have hex := Dec.size_extract t n
      cases ok
      all_goals
        go_wp2_with (first
          | (go_at_call 33; refine (O _).mono ?_; rintro e w' ⟨rfl, rfl⟩)
          | (at_builtin; refine wpList_append_own _ rfl _ _ 39 rfl w.heap.size 3 i0 (.int .i64 0) 1 8 Tryz.underlying39 hi hz0 hz1 hz2 rfl (by decide) _ _ _ rfl (hown.alloc _) ⟨_, 0, none⟩ 1 1 [.int .i64 r] rfl rfl (cell_one_new _ _ _) (fun x hx => by simp at hx; subst hx; rfl) (by unfold maxLen; omega) (by omega) (by simp; omega) ?_; intro v' w3 hown' hgrow3 _))
      · have hb3 := Below.grown (hbw.alloc (by omega) _) hgrow3 (by simp; omega) (fun j hj => (hown.lt _ hj).1)
        have HA3 := HA2.out
        have HB3 : bad + ((Dec.decT f' (t.extract n t.size)).2 + 1) = _ := HB2.out
        exact ⟨⟨t.extract n t.size, f', bad + 1, acc ++ [r], rfl, by go_num, Ints.snoc hown', hb3, by simpa using HA3, by omega, by omega, by simp; omega, by omega⟩, by simp only [strLen]; omega⟩
      · have hb3 := Below.grown (hbw.alloc (by omega) _) hgrow3 (by simp; omega) (fun j hj => (hown.lt _ hj).1)
        have HA3 := HA2.out
        have HB3 : bad + ((Dec.decT f' (t.extract n t.size)).2 + 0) = _ := HB2.out
        exact ⟨⟨t.extract n t.size, f', bad, acc ++ [r], rfl, by go_num, Ints.snoc hown', hb3, by simpa using HA3, by omega, by omega, by simp; omega, by omega⟩, by simp only [strLen]; omega⟩
    · have ht0 : t.size = 0 := by omega
      have HA2 := HA.out
      have HB2 := HB.out
      rw [Dec.decT_end _ _ ht0] at HA2 HB2
      have HA3 : Hid _ := HA2
      have HB3 : Hid _ := HB2
      clear HA2 HB2 HA HB
      go_wp2
      go_ret2
      have HA4 := HA3.out
      have HB4 := HB3.out
      simp only [List.append_nil, Nat.add_zero] at HA4 HB4
      refine ⟨_, ret_v (by rw [HB4]), ?_, hbw⟩
      rw [← HA4]
      exact hown
end Go.Proofs.YtddelohmppdndaaGreatDoor

namespace Go.Proofs.YtddelohmppdndaaGreatDoor
open Go.RowKit

theorem own_low {w : World} {B B' e size n : Nat} {v : Value} {xs : List Value} (h : w.ownsRow B' e size v n xs) (hB : B ≤ B') : w.ownsRow B e size v n xs := by
  obtain ⟨h1, h2⟩ := h
  refine ⟨h1, ?_⟩
  rcases h2 with h2 | ⟨g, cap, cur, a, b, c⟩
  · exact .inl h2
  · exact .inr ⟨g, cap, cur, a, by omega, c⟩

def ReadRel (s : ByteArray) (w : World) (v b nx : Value) (wr : World) : Prop :=
  ∃ (p q f bad : Nat) (acc : List Int), b = .int .i64 bad ∧ nx = .int .i64 q ∧ wr.heap[w.heap.size]? = some (.stringIter s p) ∧ Ints wr (w.heap.size + 1) v acc ∧ Below w.heap.size w wr ∧
    p ≤ q ∧ q ≤ s.size ∧ (∀ j, p ≤ j → j < q → 128 ≤ Dec.bt s j ∧ Dec.bt s j ≤ 191) ∧
    acc ++ (Dec.decT f (s.extract q s.size)).1 = (Dec.decT s.size s).1 ∧ bad + (Dec.decT f (s.extract q s.size)).2 = (Dec.decT s.size s).2 ∧ s.size ≤ q + f ∧ acc.length ≤ q ∧ bad ≤ q

theorem extract_all (s : ByteArray) : s.extract 0 s.size = s := by simp

set_option maxRecDepth 100000 in
set_option maxHeartbeats 2000000 in
theorem readText_any (s : ByteArray) (w : World) (hs : s.size ≤ 1073741824) :
    Calls Tryz.prog 72 #[.string s] w fun e w' => ∃ v, e = .returned (.tuple #[v, .int .i64 ((Dec.decT s.size s).2 : Int)]) ∧ Ints w' w.heap.size v (Dec.decT s.size s).1 ∧ Below w.heap.size w w' := by
  obtain ⟨i0, hi, hz0, hz1, hz2⟩ := info_parts info_int
  go_enter Tryz.func72, Tryz.ntmps72
  go_wp2
  go_loopw [4, 5, 6] (fun v b nx wr => ReadRel s w v b nx wr) (fun _ _ _ wr => s.size - wr.iterPos w.heap.size)
  case atStart => exact ⟨0, 0, s.size, 0, [], rfl, rfl, World.iter_heap w s 0, World.ownsRow_nil _ _ _ _, (Below.refl _ _).alloc (Nat.le_refl _) _, Nat.le_refl _, Nat.zero_le _, fun j _ h => by omega, by rw [extract_all]; simp, by rw [extract_all]; simp, by omega, by simp, Nat.le_refl _⟩
  case round =>
    obtain ⟨p, q, f, bad, acc, rfl, rfl, hit, hown, hbw, hpq, hqs, hct, hA, hB, hf, hal, hbl⟩ := hrel
    have HA : Hid _ := hA
    have HB : Hid _ := hB
    have HC : Hid _ := hct
    clear hA hB hct
    have hpos0 := iterPos_of hit
    unfold Ints at hown
    by_cases hp : p < s.size
    · have hnx : ∀ ty, (Instr.next (.pointer (some ⟨w.heap.size, 0, none⟩)) true ty).run Tryz.prog wr = _ := fun ty => Lib.run_next_any_at wr w.heap.size s p ty hit hp
      have hd1 := decode_le s p
      have hit2 := Lib.iterAt_heap wr w.heap.size s p (p + (Utf8.decode s p).2) hit
      have hbw2 := Lib.below_iterAt hbw (k := w.heap.size) (Nat.le_refl _) s (p + (Utf8.decode s p).2)
      have hown2 := ownsRow_iterAt hown (k := w.heap.size) (by omega) s (p + (Utf8.decode s p).2)
      obtain ⟨W1, hW1⟩ : ∃ W1, W1 = wr.iterAt w.heap.size s (p + (Utf8.decode s p).2) := ⟨_, rfl⟩
      rw [← hW1] at hnx hit2 hbw2 hown2
      have hBlt := lt_of_block hit2
      clear hW1 hit hown hbw
      by_cases hlt : p < q
      · have hw1 := Dec.decode_cont s p hp (HC.out p (Nat.le_refl _) hlt).1 (HC.out p (Nat.le_refl _) hlt).2
        have HW : Hid _ := hw1
        clear hw1
        go_wp2
        go_roundw
        case rel => exact ⟨p + (Utf8.decode s p).2, q, f, bad, acc, rfl, rfl, hit2, hown2, hbw2, by rw [HW.out]; omega, hqs, fun j j1 j2 => HC.out j (by rw [HW.out] at j1; omega) j2, HA.out, HB.out, hf, hal, hbl⟩
        case measure => rw [iterPos_of hit2, hpos0, HW.out]; omega
      · have hqp : q = p := by omega
        subst hqp
        have hex := Dec.size_extract s q
        have hd := Dec.decode_one s q hp
        obtain ⟨r, n, ok, HO⟩ : ∃ r n ok, Hid (Dec.one (s.extract q s.size) = (r, n, ok)) := ⟨_, _, _, rfl⟩
        have hn := Dec.one_le (s.extract q s.size) (by omega)
        have hcont := Dec.one_cont (s.extract q s.size)
        rw [HO.out] at hn hd hcont
        have HD : Hid _ := hd
        have HT : Hid _ := hcont
        clear hd hcont
        have hn1 : 1 ≤ n := hn.1
        have hn2 : n ≤ (s.extract q s.size).size := hn.2
        clear hn
        have O := fun w => front_any (s.extract q s.size) (by omega) (by unfold maxLen; omega) w
        rw [HO.out] at O
        obtain ⟨f', rfl⟩ : ∃ f', f = f' + 1 := ⟨f - 1, by omega⟩
        have hds := decT_step (by omega) HO.out f'
        rw [Dec.extract_extract] at hds
        have HA1 := HA.out
        have HB1 := HB.out
        rw [hds] at HA1 HB1
        have HA2 : Hid _ := HA1
        have HB2 : Hid _ := HB1
        have HEX : Hid _ := hex
        have hn3 : q + n ≤ s.size := by omega
        clear HA1 HB1 hds HA HB hex hn2
        have hsz := hbw2.size
        cases ok
        all_goals
          go_wp2_with (first
            | (go_at_call 39; refine (O _).mono ?_; rintro e w' ⟨rfl, rfl⟩)
            | (at_builtin; refine wpList_append_own _ rfl _ _ 39 rfl (w.heap.size + 1) 3 i0 (.int .i64 0) 1 8 Tryz.underlying39 hi hz0 hz1 hz2 rfl (by decide) _ _ _ rfl (hown2.alloc _) ⟨_, 0, none⟩ 1 1 [.int .i64 ((Utf8.decode s q).1 : Int)] rfl rfl (cell_one_new _ _ _) (fun x hx => by simp at hx; subst hx; rfl) (by unfold maxLen; omega) (by omega) (by simp; omega) ?_; intro v' w3 hown' hgrow3 _))
          have hit3 : w3.heap[w.heap.size]? = some (.stringIter s (q + (Utf8.decode s q).2)) := by
            rw [hgrow3.block w.heap.size (by simp; omega) (fun h => by have := (hown2.lt _ h.symm).1; omega), Below.heap_alloc _ _ _ hBlt]; exact hit2
          have hbw3 : Below w.heap.size w w3 := Below.grown (hbw2.alloc (by omega) _) hgrow3 (by simp; omega) (fun j hj => by have := (hown2.lt _ hj).1; omega)
          have hI := Ints.snoc hown'
          have HA3 := HA2.out
        · have hd1 : ((Utf8.decode s q).1 : Int) = r := HD.out.1
          have hd2 : (Utf8.decode s q).2 = 1 := HD.out.2
          rw [hd1] at hI
          have HB3 : bad + ((Dec.decT f' (s.extract (q + n) s.size)).2 + 1) = _ := HB2.out
          refine ⟨⟨q + (Utf8.decode s q).2, q + n, f', bad + 1, acc ++ [r], by go_num, by go_num, hit3, hI, hbw3, by omega, hn3, ?_, by simpa using HA3, by omega, by omega, by simp; omega, by omega⟩, by rw [iterPos_of hit3, hpos0]; omega⟩
          intro j j1 j2
          have := HT.out trivial (j - q) (by omega) (by show j - q < n; omega)
          rw [Dec.bt_extract s q (j - q) (by omega), show q + (j - q) = j by omega] at this
          exact this
        · have hd1 : ((Utf8.decode s q).1 : Int) = r := HD.out.1
          have hd2 : (Utf8.decode s q).2 = n := HD.out.2
          rw [hd1] at hI
          have HB3 : bad + ((Dec.decT f' (s.extract (q + n) s.size)).2 + 0) = _ := HB2.out
          exact ⟨⟨q + (Utf8.decode s q).2, q + n, f', bad, acc ++ [r], by go_num, by go_num, hit3, hI, hbw3, by omega, hn3, fun j j1 j2 => by omega, by simpa using HA3, by omega, by omega, by simp; omega, by omega⟩, by rw [iterPos_of hit3, hpos0]; omega⟩
    · have hnx : ∀ ty, (Instr.next (.pointer (some ⟨w.heap.size, 0, none⟩)) true ty).run Tryz.prog wr = _ := fun ty => Lib.run_next_end_at wr w.heap.size s p ty hit hp
      have hq0 : (s.extract q s.size).size = 0 := by rw [Dec.size_extract]; omega
      have HA2 := HA.out
      have HB2 := HB.out
      rw [Dec.decT_end _ _ hq0] at HA2 HB2
      have HA3 : Hid _ := HA2
      have HB3 : Hid _ := HB2
      clear HA2 HB2 HA HB hq0
      go_wp2
      go_ret2
      have HA4 := HA3.out
      have HB4 := HB3.out
      simp only [List.append_nil, Nat.add_zero] at HA4 HB4
      refine ⟨_, ret_v (by rw [HB4]), ?_, hbw⟩
      rw [← HA4]
      exact own_low hown (by omega)
end Go.Proofs.YtddelohmppdndaaGreatDoor

namespace Go.Proofs.YtddelohmppdndaaGreatDoor
open Go.RowKit

set_option maxRecDepth 100000 in
set_option maxHeartbeats 1000000 in
theorem implDecode_any (s : ByteArray) (w : World) (hs : s.size ≤ 200) :
    Calls Tryz.prog 55 #[.string s] w fun e w' => ∃ v, e = .returned (.tuple #[v, .bool true]) ∧ Ints w' w.heap.size v (Dec.decT s.size s).1 ∧ Below w.heap.size w w' := by
  have D := fun w => readText_any s w (by omega)
  go_enter Tryz.func55, Tryz.ntmps55
  go_wp2_with (go_at_call 72; refine (D _).mono ?_; rintro e w' ⟨v, rfl, hI, hb⟩)
  go_ret2
  exact ⟨_, rfl, hI, hb⟩

set_option maxRecDepth 100000 in
set_option maxHeartbeats 1000000 in
theorem implDecode_no (s : ByteArray) (w : World) (hs : 200 < s.size) (hm : s.size ≤ 1048576) :
    Calls Tryz.prog 55 #[.string s] w fun e w' => e = .returned (.tuple #[.slice none 0 0, .bool false]) ∧ w' = w := by
  go_enter Tryz.func55, Tryz.ntmps55
  go_wp2
  go_ret2
  exact ⟨rfl, rfl⟩
end Go.Proofs.YtddelohmppdndaaGreatDoor

namespace Go.Proofs.YtddelohmppdndaaGreatDoor
open Go.RowKit

set_option maxHeartbeats 1000000 in
theorem decode_good (s : ByteArray) (p : Nat) : (Utf8.decode s p).1 ≤ 1114111 ∧ ((Utf8.decode s p).1 < 55296 ∨ 57343 < (Utf8.decode s p).1) := by
  have hb : ∀ k, (s.get! (p + k)).toNat < 256 := fun k => (s.get! (p + k)).toNat_lt
  have h0 := hb 0; have h1 := hb 1; have h2 := hb 2; have h3 := hb 3
  simp only [Utf8.decode]
  repeat' split
  all_goals simp_all [Utf8.runeError, Utf8.valid]
  all_goals omega

theorem one_good (t : ByteArray) (h : 0 < t.size) : goodB (Dec.one t).1 = true := by
  have hd := (Dec.decode_one t 0 h).1
  rw [extract_all] at hd
  have hg := decode_good t 0
  rw [← hd]
  exact decide_eq_true (by omega)

theorem dec_good : ∀ (f : Nat) (t : ByteArray), ∀ x ∈ (Dec.decT f t).1, goodB x = true := by
  intro f
  induction f with
  | zero => intro t x hx; simp [Dec.decT] at hx
  | succ f ih =>
    intro t x hx
    simp only [Dec.decT] at hx
    split at hx
    · rename_i h0
      simp only [List.mem_cons] at hx
      rcases hx with rfl | hx
      · exact one_good t h0
      · exact ih _ x hx
    · simp at hx
end Go.Proofs.YtddelohmppdndaaGreatDoor

namespace Go.Proofs.YtddelohmppdndaaGreatDoor
open Go.RowKit

theorem okR_dec {x : ByteArray} (h : x.size ≤ 200) : okR (Dec.decT x.size x).1 = true := decide_eq_true ⟨Nat.le_trans (Dec.decT_len x.size x (Nat.le_refl _)).1 h, dec_good x.size x⟩

/-- The runes of a text, where they are not too many. -/
def aR (x : ByteArray) : List Int := if ok4 x = true then rn4 x else []

theorem aR_len (x : ByteArray) : (aR x).length ≤ 200 := by
  unfold aR
  split
  · rename_i h
    exact (of_decide_eq_true h).2
  · simp

set_option maxRecDepth 100000 in
set_option maxHeartbeats 4000000 in
theorem apartT_any (x : ByteArray) (hx : x.size ≤ 1048576) (u : World) (ht : Tabs3 u) :
    Calls Tryz.prog 38 #[.string x] u fun e u' => ∃ v, e = .returned (.tuple #[v, .bool (ok4 x)]) ∧ Ints u' u.heap.size v (aR x) ∧ Below u.heap.size u u' := by
  by_cases h : x.size ≤ 200
  · have D := fun w => implDecode_any x w h
    have hok := okR_dec h
    have hlen := (Dec.decT_len x.size x (Nat.le_refl _)).1
    have N := fun (u' : World) (v : Value) (hb : Below u.heap.size u u') (hI : Ints u' u.heap.size v (Dec.decT x.size x).1) => implD_any (by omega) hI (ht.below hb).1 (ht.below hb).2.1 (ht.below hb).2.2
    have ho4 : okD (Dec.decT x.size x).1 = ok4 x := by
      rw [okD_eq hok]
      unfold ok4 rn4
      rw [decide_eq_decide]
      omega
    have han : ansD (Dec.decT x.size x).1 = aR x := by
      unfold ansD aR
      rw [ho4]
      rfl
    rw [ho4, han] at N
    generalize (Dec.decT x.size x).1 = ds at *
    generalize ok4 x = ok at *
    generalize aR x = l at *
    clear hok ht ho4 han
    go_enter Tryz.func38, Tryz.ntmps38
    go_wp2_with fail
    refine (D _).mono ?_
    rintro e w1 ⟨v1, rfl, i1, b1⟩
    clear D
    have N1 := N _ _ b1 i1
    clear N i1
    go_wp2_with fail
    refine N1.mono ?_
    rintro e w2 ⟨v2, rfl, i2, b2⟩
    clear N1
    go_wp2
    go_ret2
    exact ⟨_, rfl, ints_low2 i2 b1.size, b1.trans (b2.mono b1.size)⟩
  · have D := fun w => implDecode_no x w (by omega) hx
    have h1 : ok4 x = false := decide_eq_false fun c => h c.1
    have h2 : aR x = [] := by unfold aR; rw [h1]; rfl
    rw [h1, h2]
    clear h1 h2 ht
    go_enter Tryz.func38, Tryz.ntmps38
    go_wp2_with fail
    refine (D _).mono ?_
    rintro e w1 ⟨rfl, rfl⟩
    clear D
    go_wp2
    go_ret2
    exact ⟨_, rfl, ⟨rfl, .inl ⟨rfl, rfl⟩⟩, Below.refl _ _⟩
end Go.Proofs.YtddelohmppdndaaGreatDoor

namespace Go.Proofs.YtddelohmppdndaaGreatDoor
open Go.RowKit

/-- What stands in the region that looks for an entry with the same runes ahead. -/
def Gin (w0 : World) (b1 b4 : Nat) (v x : Value) (u : World) : Prop := u.cell? ⟨b1, 0, none⟩ = some v ∧ u.cell? ⟨b4, 0, none⟩ = some x ∧ Below w0.heap.size w0 u
theorem Gin.keep {w0 w1 w2 : World} {b1 b4 : Nat} {v x : Value} (h1 : b1 < w0.heap.size) (h4 : b4 < w0.heap.size) (hb : Below w1.heap.size w1 w2) (h : Gin w0 b1 b4 v x w1) : Gin w0 b1 b4 v x w2 := by
  obtain ⟨a, b, c⟩ := h
  exact ⟨by rw [hb.cell (Nat.lt_of_lt_of_le h1 c.size)]; exact a, by rw [hb.cell (Nat.lt_of_lt_of_le h4 c.size)]; exact b, c.trans (hb.mono c.size)⟩

theorem Gin.set4 {w0 u : World} {b1 b4 : Nat} {v x : Value} (h1 : b1 < w0.heap.size) (h4 : b4 < w0.heap.size) (a b c d : Value) (h : Gin w0 b1 b4 v x u) : Gin w0 b1 b4 v x ((((u.setCell ⟨w0.heap.size, 0, none⟩ a).setCell ⟨w0.heap.size, 1, none⟩ b).setCell ⟨w0.heap.size, 2, none⟩ c).setCell ⟨w0.heap.size, 3, none⟩ d) := by
  obtain ⟨p, q, r⟩ := h
  have n1 : ∀ (m : World) (o : Nat) (y : Value), (m.setCell ⟨w0.heap.size, o, none⟩ y).cell? ⟨b1, 0, none⟩ = m.cell? ⟨b1, 0, none⟩ := fun m o y => World.cell?_setCell_other _ _ _ _ (fun e => by injection e; omega)
  have n4 : ∀ (m : World) (o : Nat) (y : Value), (m.setCell ⟨w0.heap.size, o, none⟩ y).cell? ⟨b4, 0, none⟩ = m.cell? ⟨b4, 0, none⟩ := fun m o y => World.cell?_setCell_other _ _ _ _ (fun e => by injection e; omega)
  exact ⟨by rw [n1, n1, n1, n1]; exact p, by rw [n4, n4, n4, n4]; exact q, (((r.setCell (Nat.le_refl _) _).setCell (Nat.le_refl _) _).setCell (Nat.le_refl _) _).setCell (Nat.le_refl _) _⟩

theorem entry_keep {u : World} {B B' n : Nat} {v vl : Value} {es : List Ent} {l : List Int} (hE : Ents u B v es) (hL : Ints u B' vl l) (hn : es.length ≤ 1048576) (hl : l.length ≤ 1048576) (hr : ∀ e ∈ es, e.runes.length ≤ 1048576) :
    Calls Tryz.prog 93 #[v, vl] u fun e w' => e = .returned (elRes (entOf es l)) ∧ Below u.heap.size u w' ∧ (∀ j, n < u.heap.size → w'.cell? ⟨n, j, none⟩ = u.cell? ⟨n, j, none⟩) ∧ ∀ j, n < u.heap.size → w'.frozen? ⟨n, j, none⟩ = u.frozen? ⟨n, j, none⟩ :=
  (entry_any hE hL hn hl hr).mono fun _ _ h => ⟨h.1, h.2, fun _ hj => h.2.cell hj, fun j hj => h.2.frozen (p := ⟨n, j, none⟩) hj⟩

theorem entOk_split (es : List Ent) (i : Nat) (e : Ent) : entOk es i e = (runesOk e.runes && (decide (atE es e.runes = (i : Int)) && elOk e.el)) := rfl

set_option maxRecDepth 100000 in
set_option maxHeartbeats 2000000 in
theorem good3i_long (w : World) (a : Option Addr) (n c : Nat) (sh : Bool) (lv : Int) (h : 40 < n) : Calls Tryz.prog 74 #[.agg #[.slice a n c, .bool sh, .int .i64 lv]] w fun e w' => e = .returned (.bool false) ∧ Below w.heap.size w w' := by
  have h2 : (40 : Int) < (n : Int) := by omega
  go_enter Tryz.func74, Tryz.ntmps74
  go_wp2
  go_ret
  exact ⟨rfl, (Below.refl _ _).alloc (Nat.le_refl _) _⟩

set_option maxRecDepth 100000 in
set_option maxHeartbeats 2000000 in
theorem good3i_lev (w : World) (a : Option Addr) (n c : Nat) (sh : Bool) (lv : Int) (h : n ≤ 40) (hl : ¬ (1 ≤ lv ∧ lv ≤ 4)) : Calls Tryz.prog 74 #[.agg #[.slice a n c, .bool sh, .int .i64 lv]] w fun e w' => e = .returned (.bool false) ∧ Below w.heap.size w w' := by
  have h2 : ¬ (40 : Int) < (n : Int) := by omega
  by_cases h3 : lv < 1
  · clear hl
    go_enter Tryz.func74, Tryz.ntmps74
    go_wp2
    go_ret
    exact ⟨rfl, (Below.refl _ _).alloc (Nat.le_refl _) _⟩
  · have h4 : 4 < lv := by omega
    clear hl
    go_enter Tryz.func74, Tryz.ntmps74
    go_wp2
    go_ret
    exact ⟨rfl, (Below.refl _ _).alloc (Nat.le_refl _) _⟩

set_option maxRecDepth 100000 in
set_option maxHeartbeats 2000000 in
theorem good3i_nil (w : World) (sh : Bool) (lv : Int) (hl : 1 ≤ lv ∧ lv ≤ 4) : Calls Tryz.prog 74 #[.agg #[.slice none 0 0, .bool sh, .int .i64 lv]] w fun e w' => e = .returned (.bool true) ∧ Below w.heap.size w w' := by
  obtain ⟨h3, h4⟩ := hl
  go_enter Tryz.func74, Tryz.ntmps74
  go_wp2
  go_loop [24] (fun i => i = .int .i64 0) (fun _ => 0)
  case atStart => rfl
  case round =>
    subst hrel
    go_wp2
    go_ret
    exact ⟨rfl, (Below.refl _ _).alloc (Nat.le_refl _) _⟩

/-- The block of an entry that is looked at. -/
def Eb (u : World) (b : Nat) (x : Value) (e : El) : Prop := u.heap[b]? = some (.cells #[x, .int .i64 e.first, .int .i64 e.second, .int .i64 e.third, .bool e.varies] 69)
theorem Eb.facts {u : World} {b : Nat} {x : Value} {e : El} (h : Eb u b x e) : b < u.heap.size ∧ u.cell? ⟨b, 0, none⟩ = some x ∧ u.cell? ⟨b, 1, none⟩ = some (.int .i64 e.first) ∧ u.cell? ⟨b, 2, none⟩ = some (.int .i64 e.second) ∧ u.cell? ⟨b, 3, none⟩ = some (.int .i64 e.third) ∧ u.cell? ⟨b, 4, none⟩ = some (.bool e.varies) :=
  ⟨(Array.getElem?_eq_some_iff.1 h).1, cell_of_row _ _ 0 _ _ _ h, cell_of_row _ _ 1 _ _ _ h, cell_of_row _ _ 2 _ _ _ h, cell_of_row _ _ 3 _ _ _ h, cell_of_row _ _ 4 _ _ _ h⟩
theorem Eb.below {u u' : World} {b : Nat} {x : Value} {e : El} (h : Eb u b x e) (hb : Below u.heap.size u u') : Eb u' b x e := (hb.block _ h.facts.1).trans h

set_option maxRecDepth 100000 in
set_option maxHeartbeats 8000000 in
theorem good3i_row (w : World) (B g cap : Nat) (es : List Ent) (sh : Bool) (lv : Int) (hE : Ents w B (.slice (some ⟨g, 0, none⟩) es.length cap) es) (hn : es.length ≤ 40) (hl : 1 ≤ lv ∧ lv ≤ 4) (hr : ∀ e ∈ es, e.runes.length ≤ 1048576) (ht : Tabs3 w) :
    Calls Tryz.prog 74 #[.agg #[.slice (some ⟨g, 0, none⟩) es.length cap, .bool sh, .int .i64 lv]] w fun e w' => e = .returned (.bool (rulesOk es lv)) ∧ Below w.heap.size w w' := by
  obtain ⟨hl1, hl2⟩ := hl
  have hn2 : ¬ (40 : Int) < (es.length : Int) := by omega
  have HT : Hid (Tabs3 w) := ht
  have hcap : es.length ≤ cap ∧ cap ≤ maxLen := by
    rcases hE.form with ⟨h, _⟩ | ⟨_, _, h, h2, h3, _, _⟩
    · cases h
    · cases h; exact ⟨h2, h3⟩
  unfold maxLen at hcap
  clear ht
  go_enter Tryz.func74, Tryz.ntmps74
  go_wp2
  go_loopw [24] (fun i wr => GRel w (.slice (some ⟨g, 0, none⟩) es.length cap) sh lv es i wr) (fun i _ => es.length - (intOf i).toNat)
  case atStart => exact ⟨0, Nat.zero_le _, rfl, fun i e hi => by omega, ⟨by simp, by simp [World.cell?_alloc_new], by simp [World.cell?_alloc_new], by simp [World.cell?_alloc_new]⟩, (Below.refl _ _).alloc (Nat.le_refl _) _⟩
  case round =>
    obtain ⟨k, hk, rfl, HN0, hbx, hb⟩ := hrel
    have HN : Hid (EntsTo es k) := HN0
    clear HN0
    by_cases hlt : k < es.length
    · obtain ⟨e, he⟩ : ∃ e, es[k]? = some e := ⟨_, List.getElem?_eq_getElem hlt⟩
      obtain ⟨x, hI, a0, a1, a2, a3, a4⟩ := (hE.below hb).cells k e he
      obtain ⟨xa, xn, xc, rfl⟩ : ∃ xa xn xc, x = .slice xa xn xc := by
        rcases hI.form with ⟨rfl, _⟩ | ⟨_, _, rfl, _, _⟩
        · exact ⟨_, _, _, rfl⟩
        · exact ⟨_, _, _, rfl⟩
      have hk8 : (k : Int) < (es.length : Int) := by omega
      have hrl := hr e (List.mem_of_getElem? he)
      have hbr := (Below.refl wr.heap.size wr).alloc (Nat.le_refl _) (.cells #[.slice xa xn xc, .int .i64 e.el.first, .int .i64 e.el.second, .int .i64 e.el.third, .bool e.el.varies] 69)
      have hba := hb.trans (hbr.mono hb.size)
      have hE2 := (hE.below hb).below hbr
      have JN := joined_any hrl (hI.below hbr) ((HT.out.below hb).below hbr)
      have HE : Hid _ := he
      have HI2 : Hid (Ints _ _ _ _) := hI.below hbr
      have HE2 : Hid (Ents _ _ _ _) := hE2
      have HB : Hid (Below _ _ _) := hba
      have HX : Hid (Box3 _ _ _ _ _) := hbx.below hbr
      have HG : Hid (Eb _ _ _ _) := show Eb (wr.alloc _) wr.heap.size (.slice xa xn xc) e.el from heap_alloc_new _ _
      clear he hI hE2 hba hbr hbx hb HT
      go_wp2_with fail
      refine JN.mono ?_
      rintro e' w2 ⟨rfl, b2⟩
      have c2 : Hid (Below _ _ _) := HB.out.trans (b2.mono HB.out.size)
      have g2 : Hid (Eb _ _ _ _) := HG.out.below b2
      have x2 : Hid (Box3 _ _ _ _ _) := HX.out.below b2
      have i2 : Hid (Ints _ _ _ _) := HI2.out.below b2
      have ee2 : Hid (Ents _ _ _ _) := HE2.out.below b2
      clear JN a0 a1 a2 a3 a4 HB HX HG HI2 HE2 b2
      cases r1 : runesOk e.runes
      · have HF : Hid (rulesOk es lv = false) := rulesOk_ent HE.out (by rw [entOk_split, r1, Bool.false_and])
        clear HN HE hE hr
        go_wp2
        go_ret
        rw [HF.out]
        exact ⟨rfl, c2.out⟩
      · obtain ⟨_, d0, d1, d2, d3, d4⟩ := g2.out.facts
        have GE := fun w => goodElem_any e.el w
        go_wp2_with fail
        refine (GE _).mono ?_
        rintro e' w3 ⟨rfl, b3⟩
        have c3 : Hid (Below _ _ _) := c2.out.trans (b3.mono c2.out.size)
        have g3 : Hid (Eb _ _ _ _) := g2.out.below b3
        have x3 : Hid (Box3 _ _ _ _ _) := x2.out.below b3
        have i3 : Hid (Ints _ _ _ _) := i2.out.below b3
        have ee3 : Hid (Ents _ _ _ _) := ee2.out.below b3
        clear GE d0 d1 d2 d3 d4 c2 g2 x2 i2 ee2 b3
        cases r2 : elOk e.el
        · have HF : Hid (rulesOk es lv = false) := rulesOk_ent HE.out (by rw [entOk_split, r2]; simp)
          clear HN HE hE hr
          go_wp2
          go_ret
          rw [HF.out]
          exact ⟨rfl, c3.out⟩
        · have hk9 : (k : Int) ≤ (cap : Int) := by omega
          have hg4 := g3.out.facts.1
          have hg1 := x3.out.1
          have hS : w3.cell? ⟨w.heap.size, 0, none⟩ = some (.slice (some ⟨g, 0, none⟩) es.length cap) ∧ w3.cell? ⟨wr.heap.size, 0, none⟩ = some (.slice xa xn xc) ∧ Below w3.heap.size w3 w3 := ⟨x3.out.2.1, g3.out.facts.2.1, Below.refl _ _⟩
          have hS2 := Gin.keep hg1 hg4 ((Below.refl w3.heap.size w3).drew) hS
          have K := fun (u1 u2 : World) (hb : Below u1.heap.size u1 u2) (hu : u1.cell? ⟨w.heap.size, 0, none⟩ = some (.slice (some ⟨g, 0, none⟩) es.length cap) ∧ u1.cell? ⟨wr.heap.size, 0, none⟩ = some (.slice xa xn xc) ∧ Below w3.heap.size w3 u1) => Gin.keep hg1 hg4 hb hu
          have hS3 := Gin.keep hg1 hg4 (((Below.refl w3.heap.size w3).alloc (Nat.le_refl _) (.cells #[.int .i64 0, .int .i64 0, .int .i64 0, .bool false] 67)).drew) hS
          have K4 := fun (u : World) (a b c d : Value) (hu : u.cell? ⟨w.heap.size, 0, none⟩ = some (.slice (some ⟨g, 0, none⟩) es.length cap) ∧ u.cell? ⟨wr.heap.size, 0, none⟩ = some (.slice xa xn xc) ∧ Below w3.heap.size w3 u) => Gin.set4 hg1 hg4 a b c d hu
          unfold Gin at hS2 hS3 K K4
          have EN := fun (u : World) (hu : u.cell? ⟨w.heap.size, 0, none⟩ = some (.slice (some ⟨g, 0, none⟩) es.length cap) ∧ u.cell? ⟨wr.heap.size, 0, none⟩ = some (.slice xa xn xc) ∧ Below w3.heap.size w3 u) => entry_keep (n := w3.heap.size) ((ee3.out.below hu.2.2).take k hk) (i3.out.below hu.2.2) (by rw [List.length_take]; omega) hrl (fun x hx => hr x (List.mem_of_mem_take hx))
          have HW : Hid (entOf (es.take k) e.runes = none ↔ atE es e.runes = (k : Int)) := atE_here HE.out
          obtain ⟨o, ho⟩ : ∃ o, entOf (es.take k) e.runes = o := ⟨_, rfl⟩
          rw [ho] at EN
          unfold elRes elV at EN
          have HO : Hid (entOf (es.take k) e.runes = o) := ho
          clear ho
          have HXE : Hid (o.isSome = false → EntsTo es (k + 1)) := fun c => HN.out.succ HE.out (by rw [entOk_split, r1, r2, decide_eq_true (HW.out.1 (by rw [HO.out]; simpa using c))]; rfl)
          have HXF : Hid (o.isSome = true → rulesOk es lv = false) := fun c => rulesOk_ent HE.out (by
            have : ¬ atE es e.runes = (k : Int) := fun d => by rw [HW.out.2 d] at HO; have := HO.out; rw [← this] at c; simp at c
            rw [entOk_split, decide_eq_false this]; simp)
          clear HW HO HE HN r1 r2 ee3 i3
          generalize elOf o = x0 at *
          generalize o.isSome = ob at *
          go_wp2_with fail
          go_region_held3 (fun u => u.cell? ⟨w.heap.size, 0, none⟩ = some (.slice (some ⟨g, 0, none⟩) es.length cap) ∧ u.cell? ⟨wr.heap.size, 0, none⟩ = some (.slice xa xn xc) ∧ Below w3.heap.size w3 u)
            (first
              | with_reducible exact hS2
              | with_reducible exact hS3
              | with_reducible exact K _ _ (by assumption) (by assumption)
              | (with_reducible refine K4 _ _ _ _ _ ?_; first | assumption | exact K _ _ (by assumption) (by assumption))
              | (with_reducible refine K _ _ ((Below.refl _ _).alloc (Nat.le_refl _) _) ?_; first | assumption | exact hS2 | exact K _ _ (by assumption) (by assumption)))
            ((go_at_call 93; refine (EN _ (by assumption)).mono ?_; rintro e' w' ⟨rfl, hbw, hcw, hfw⟩))
          all_goals
            clear hS hS2 hS3 K K4 EN
            obtain ⟨_, _, hE9⟩ := (show _ ∧ _ ∧ Below w3.heap.size w3 _ by assumption)
            have x4 : Hid (Box3 _ _ _ _ _) := x3.out.below hE9
            have c4 : Hid (Below _ _ _) := c3.out.trans (hE9.mono c3.out.size)
            cases ob
            · have HN2 : Hid (EntsTo es (k + 1)) := HXE.out rfl
              clear HXE HXF hE9 hr hE
              go_wp2
              exact ⟨⟨k + 1, by omega, by go_num, HN2.out, x4.out, c4.out⟩, by simp [intOf]; omega⟩
            · have HF : Hid (rulesOk es lv = false) := HXF.out rfl
              clear HXE HXF hE9 hr hE
              go_wp2
              go_ret
              rw [HF.out]
              exact ⟨rfl, c4.out⟩
    · have HA : Hid (rulesOk es lv = true) := rulesOk_all HN.out (by omega) hn ⟨hl1, hl2⟩
      clear HN hE hr
      go_wp2
      go_ret
      rw [HA.out]
      exact ⟨rfl, hb⟩

theorem implGood3_any {w : World} {B : Nat} {v : Value} {es : List Ent} {sh : Bool} {lv : Int} (hE : Ents w B v es) (hr : ∀ e ∈ es, e.runes.length ≤ 1048576) (ht : Tabs3 w) :
    Calls Tryz.prog 74 #[.agg #[v, .bool sh, .int .i64 lv]] w fun e w' => e = .returned (.bool (rulesOk es lv)) ∧ Below w.heap.size w w' := by
  obtain ⟨a, c, rfl⟩ : ∃ a c, v = .slice a es.length c := by
    rcases hE.form with ⟨rfl, rfl⟩ | ⟨g, cap, rfl, _, _, _, _⟩
    · exact ⟨_, _, rfl⟩
    · exact ⟨_, _, rfl⟩
  by_cases h1 : es.length ≤ 40
  · by_cases h2 : 1 ≤ lv ∧ lv ≤ 4
    · rcases hE.form with ⟨h, rfl⟩ | ⟨g, cap, h, _, _, _, _⟩
      · rw [h]
        have e0 : rulesOk [] lv = true := decide_eq_true ⟨by simp, h2, rfl⟩
        rw [e0]
        exact good3i_nil w sh lv h2
      · rw [h] at hE ⊢
        exact good3i_row w B g cap es sh lv hE h1 h2 hr ht
    · rw [rulesOk_head (fun h => h2 h.2)]
      exact good3i_lev w a es.length c sh lv h1 h2
  · rw [rulesOk_head (fun h => h1 h.1)]
    exact good3i_long w a es.length c sh lv (by omega)
end Go.Proofs.YtddelohmppdndaaGreatDoor

namespace Go.Proofs.YtddelohmppdndaaGreatDoor

/-- One rune put behind a sorted list, the list told from its end: it goes down as far as it must. -/
def insR : List Int → Int → List Int
  | [], r => [r]
  | x :: t, r => if 0 < cls r ∧ cls r < cls x then x :: insR t r else r :: x :: t

theorem insR_go {x r : Int} {t : List Int} (h : 0 < cls r ∧ cls r < cls x) : insR (x :: t) r = x :: insR t r := by simp only [insR, if_pos h]
theorem insR_stop {x r : Int} {t : List Int} (h : ¬ (0 < cls r ∧ cls r < cls x)) : insR (x :: t) r = r :: x :: t := by simp only [insR, if_neg h]

theorem at0_left (l m : List Int) (k : Nat) (h : k < l.length) : at0 (l ++ m) k = at0 l k := by
  simp [at0, List.getElem?_append_left h]
theorem at0_mid (l m : List Int) (x : Int) : at0 (l ++ x :: m) l.length = x := by simp [at0]

theorem bub_append (l m : List Int) (k : Nat) (h : k < l.length) : bub (l ++ m) k = bub l k ++ m := by
  induction k generalizing l with
  | zero => rfl
  | succ k ih =>
    have e1 := at0_left l m (k + 1) h
    have e2 := at0_left l m k (by omega)
    by_cases c : 0 < cls (at0 l (k + 1)) ∧ cls (at0 l (k + 1)) < cls (at0 l k)
    · rw [bub_go l k c, bub_go (l ++ m) k (by rw [e1, e2]; exact c), e1, e2, List.set_append_left _ _ h, List.set_append_left _ _ (by simp; omega)]
      exact ih _ (by simp; omega)
    · rw [bub_stop l k c, bub_stop (l ++ m) k (by rw [e1, e2]; exact c)]

theorem srt_append (l m : List Int) (i : Nat) (h : i ≤ l.length) : srt (l ++ m) i = srt l i ++ m := by
  induction i with
  | zero => rfl
  | succ i ih => rw [srt, ih (by omega), bub_append _ _ _ (by rw [srt_length]; omega)]; rfl

theorem bub_snoc (l : List Int) (r : Int) : bub (l ++ [r]) l.length = (insR l.reverse r).reverse := by
  generalize hn : l.length = n
  induction n generalizing l with
  | zero =>
    obtain rfl : l = [] := List.eq_nil_of_length_eq_zero hn
    rfl
  | succ n ih =>
    obtain ⟨l', x, rfl⟩ : ∃ l' x, l = l' ++ [x] := ⟨l.dropLast, l.getLast (by intro h; rw [h] at hn; simp at hn), (List.dropLast_concat_getLast _).symm⟩
    have hl : l'.length = n := by simpa using hn
    have e1 : at0 (l' ++ [x] ++ [r]) (n + 1) = r := by
      have := at0_mid (l' ++ [x]) [] r
      rw [show (l' ++ [x]).length = n + 1 by simp [hl]] at this
      exact this
    have e2 : at0 (l' ++ [x] ++ [r]) n = x := by
      have := at0_mid l' [r] x
      rw [hl] at this
      rw [List.append_assoc]; exact this
    rw [List.reverse_append]
    by_cases c : 0 < cls r ∧ cls r < cls x
    · rw [bub_go _ _ (by rw [e1, e2]; exact c), e1, e2]
      have e3 : ((l' ++ [x] ++ [r]).set (n + 1) x).set n r = (l' ++ [r]) ++ [x] := by
        rw [List.append_assoc, List.append_assoc]
        subst hl
        rw [List.set_append_right _ _ (by omega), List.set_append_right _ _ (by omega)]
        simp
      rw [e3, bub_append _ _ _ (by simp; omega), ih l' hl]
      show _ = (insR (x :: l'.reverse) r).reverse
      rw [insR_go c]; simp
    · rw [bub_stop _ _ (by rw [e1, e2]; exact c)]
      show _ = (insR (x :: l'.reverse) r).reverse
      rw [insR_stop c]; simp

/-- The sorted list, told from its end. -/
def stk (l : List Int) : List Int := l.foldl insR []

theorem stk_snoc (l : List Int) (r : Int) : stk (l ++ [r]) = insR (stk l) r := by simp [stk, List.foldl_append]
theorem stk_append {l l' : List Int} (h : stk l = stk l') (m : List Int) : stk (l ++ m) = stk (l' ++ m) := by
  unfold stk at *
  rw [List.foldl_append, List.foldl_append, h]

theorem sortM_stk (l : List Int) : sortM l = (stk l).reverse := by
  generalize hn : l.length = n
  induction n generalizing l with
  | zero =>
    obtain rfl : l = [] := List.eq_nil_of_length_eq_zero hn
    rfl
  | succ n ih =>
    obtain ⟨l', x, rfl⟩ : ∃ l' x, l = l' ++ [x] := ⟨l.dropLast, l.getLast (by intro h; rw [h] at hn; simp at hn), (List.dropLast_concat_getLast _).symm⟩
    have hl : l'.length = n := by simpa using hn
    have h1 : sortM (l' ++ [x]) = bub (sortM l' ++ [x]) n := by
      unfold sortM
      rw [List.length_append, List.length_singleton, srt, srt_append _ _ _ (Nat.le_refl _), hl]
    have h2 := bub_snoc (sortM l') x
    rw [sortM_length, hl, ih l' hl, List.reverse_reverse] at h2
    rw [h1, ih l' hl, h2, stk_snoc]

theorem stk_of_sort {l l' : List Int} (h : sortM l = sortM l') : stk l = stk l' := by
  rw [sortM_stk, sortM_stk] at h
  exact List.reverse_inj.1 h

theorem insR_comm {a b : Int} (ha : 0 < cls a) (hb : 0 < cls b) (hne : cls a ≠ cls b) (s : List Int) : insR (insR s a) b = insR (insR s b) a := by
  induction s with
  | nil =>
    show insR [a] b = insR [b] a
    by_cases c : cls b < cls a
    · rw [insR_go ⟨hb, c⟩, insR_stop (by omega)]; rfl
    · rw [insR_stop (by omega), insR_go ⟨ha, by omega⟩]; rfl
  | cons x t ih =>
    by_cases ca : cls a < cls x
    · by_cases cb : cls b < cls x
      · rw [insR_go ⟨ha, ca⟩, insR_go ⟨hb, cb⟩, insR_go ⟨hb, cb⟩, insR_go ⟨ha, ca⟩, ih]
      · rw [insR_go ⟨ha, ca⟩, insR_stop (x := x) (r := b) (by omega), insR_stop (x := x) (r := b) (by omega), insR_go (x := b) ⟨ha, by omega⟩, insR_go ⟨ha, ca⟩]
    · by_cases cb : cls b < cls x
      · rw [insR_go (x := x) (r := b) ⟨hb, cb⟩, insR_stop (x := x) (r := a) (by omega), insR_stop (x := x) (r := a) (by omega), insR_go (x := a) ⟨hb, by omega⟩, insR_go ⟨hb, cb⟩]
      · rw [insR_stop (x := x) (r := a) (by omega), insR_stop (x := x) (r := b) (by omega)]
        by_cases c : cls b < cls a
        · rw [insR_go (x := a) ⟨hb, c⟩, insR_stop (x := x) (r := b) (by omega), insR_stop (x := b) (by omega)]
        · rw [insR_stop (x := a) (by omega), insR_go (x := b) ⟨ha, by omega⟩, insR_stop (x := x) (r := a) (by omega)]

/-- A mark goes past marks of other classes. -/
theorem stk_past (l M : List Int) (r : Int) (hr : 0 < cls r) (hM : ∀ b ∈ M, 0 < cls b ∧ cls b ≠ cls r) : stk (l ++ r :: M) = stk (l ++ M ++ [r]) := by
  induction M generalizing l with
  | nil => simp
  | cons b M ih =>
    have hb := hM b (by simp)
    have h1 : stk (l ++ r :: b :: M) = stk (l ++ [b] ++ r :: M) := by
      have : stk (l ++ [r] ++ [b]) = stk (l ++ [b] ++ [r]) := by
        rw [stk_snoc, stk_snoc, stk_snoc, stk_snoc]
        exact insR_comm hr hb.1 (Ne.symm hb.2) _
      have h2 := stk_append this M
      simpa using h2
    rw [h1, ih (l ++ [b]) (fun c hc => hM c (by simp [hc]))]
    simp

theorem insR_base (T P : List Int) (s r : Int) (hs : cls s = 0) : insR (T ++ s :: P) r = insR (T ++ [s]) r ++ P := by
  induction T with
  | nil =>
    show insR (s :: P) r = insR [s] r ++ P
    rw [insR_stop (by omega), insR_stop (by omega)]; rfl
  | cons x T ih =>
    show insR (x :: (T ++ s :: P)) r = insR (x :: (T ++ [s])) r ++ P
    by_cases c : 0 < cls r ∧ cls r < cls x
    · rw [insR_go c, insR_go c, ih]; rfl
    · rw [insR_stop c, insR_stop c]; simp

theorem insR_form (T : List Int) (s r : Int) (hs : cls s = 0) : ∃ T', insR (T ++ [s]) r = T' ++ [s] := by
  induction T with
  | nil => exact ⟨[r], by show insR [s] r = _; rw [insR_stop (by omega)]; rfl⟩
  | cons x T ih =>
    by_cases c : 0 < cls r ∧ cls r < cls x
    · obtain ⟨T', h⟩ := ih
      exact ⟨x :: T', by show insR (x :: (T ++ [s])) r = _; rw [insR_go c, h]; rfl⟩
    · exact ⟨r :: x :: T, by show insR (x :: (T ++ [s])) r = _; rw [insR_stop c]; rfl⟩

theorem fold_base (u T P : List Int) (s : Int) (hs : cls s = 0) : u.foldl insR (T ++ s :: P) = u.foldl insR (T ++ [s]) ++ P := by
  induction u generalizing T with
  | nil => simp
  | cons r u ih =>
    simp only [List.foldl_cons]
    rw [insR_base T P s r hs]
    obtain ⟨T', h⟩ := insR_form T s r hs
    rw [h, List.append_assoc]
    exact ih T'

/-- What begins with a starter is sorted by itself. -/
theorem stk_front (P u : List Int) (s : Int) (hs : cls s = 0) : stk (P ++ s :: u) = stk (s :: u) ++ stk P := by
  unfold stk
  rw [List.foldl_append]
  simp only [List.foldl_cons]
  have h : ∀ Q : List Int, insR Q s = s :: Q := by
    intro Q
    cases Q with
    | nil => rfl
    | cons x t => exact insR_stop (by omega)
  rw [h, h]
  exact fold_base u [] (List.foldl insR [] P) s hs

theorem mem_insR {x r : Int} {s : List Int} : x ∈ insR s r ↔ x = r ∨ x ∈ s := by
  induction s with
  | nil => simp [insR]
  | cons y t ih =>
    by_cases c : 0 < cls r ∧ cls r < cls y
    · rw [insR_go c]; simp only [List.mem_cons, ih]
      constructor
      · rintro (h | h | h) <;> simp [h]
      · rintro (h | h | h) <;> simp [h]
    · rw [insR_stop c]; simp

theorem mem_fold {x : Int} (l s : List Int) : x ∈ l.foldl insR s ↔ x ∈ l ∨ x ∈ s := by
  induction l generalizing s with
  | nil => simp
  | cons r l ih =>
    simp only [List.foldl_cons, ih, mem_insR, List.mem_cons]
    constructor
    · rintro (h | h | h) <;> simp [h]
    · rintro ((h | h) | h) <;> simp [h]

theorem mem_sortM {x : Int} {l : List Int} : x ∈ sortM l ↔ x ∈ l := by
  rw [sortM_stk, List.mem_reverse]
  have := mem_fold (x := x) l []
  simpa [stk] using this

/-- A sorted list stays. -/
theorem srt_stays (l : List Int) (h : ∀ i, i + 1 < l.length → Adj l i) (k : Nat) (hk : k ≤ l.length) : srt l k = l := by
  induction k with
  | zero => rfl
  | succ k ih =>
    rw [srt, ih (by omega)]
    cases k with
    | zero => rfl
    | succ k =>
      refine bub_stop l k fun c => ?_
      have := h k (by omega) c.1
      omega

theorem sortM_again (l : List Int) : sortM (sortM l) = sortM l :=
  srt_stays _ (fun i hi => sortM_adj l i (by rw [sortM_length] at hi; exact hi)) _ (Nat.le_refl _)

theorem full_leaves (n : Nat) (r : Int) (h : levB n r = true) : ∀ x ∈ full n r, apart x = [x] := by
  induction n generalizing r with
  | zero =>
    intro x hx
    simp [full] at hx
    subst hx
    exact levB_zero h
  | succ n ih =>
    by_cases hl : apart r = [r]
    · rw [full_leaf hl]
      intro x hx
      simp at hx; subst hx; exact hl
    · rw [full_go hl]
      intro x hx
      obtain ⟨y, hy, hx⟩ := List.mem_flatMap.1 hx
      exact ih y (((levB_succ h).resolve_left hl) y hy) x hx

theorem all2_leaf {x : Int} (h : apart x = [x]) : all2 x = [x] := full_leaf h

theorem nD_leaf {zs : List Int} {x : Int} (h : x ∈ nD zs) : apart x = [x] := by
  have h1 : x ∈ apD zs := mem_sortM.1 h
  obtain ⟨y, _, hx⟩ := List.mem_flatMap.1 h1
  exact full_leaves 2 y (lev2 y) x hx

theorem apD_leaves {l : List Int} (h : ∀ x ∈ l, apart x = [x]) : apD l = l := by
  induction l with
  | nil => rfl
  | cons a l ih =>
    show all2 a ++ apD l = a :: l
    rw [all2_leaf (h a (by simp)), ih (fun x hx => h x (by simp [hx]))]; rfl

/-- Taken apart twice is once. -/
theorem nD_nD (zs : List Int) : nD (nD zs) = nD zs := by
  unfold nD
  rw [show apD (sortM (apD zs)) = sortM (apD zs) from apD_leaves (fun x hx => nD_leaf hx)]
  exact sortM_again _

theorem apD_append (l m : List Int) : apD (l ++ m) = apD l ++ apD m := by simp [apD]

theorem cls_big {y : Int} (h : 1000 ≤ y) : cls y = 0 := by
  unfold cls; repeat' split
  all_goals omega

theorem tab_cls : ∀ t ∈ tab, cls (at0 t 0) = 0 ∧ cls (at0 (all2 (at0 t 0)) 0) = 0 := by decide +kernel

/-- What a starter is taken apart into begins with a starter; a mark is a leaf. -/
theorem all2_head (r : Int) : (cls r = 0 → ∃ s u, all2 r = s :: u ∧ cls s = 0) ∧ (0 < cls r → apart r = [r]) := by
  by_cases h1 : r = 8491
  · subst h1
    exact ⟨fun _ => ⟨65, [778], by decide +kernel, by decide⟩, fun h => absurd h (by decide)⟩
  by_cases h2 : 44032 ≤ r ∧ r ≤ 55203
  · have hc : cls r = 0 := cls_big (by omega)
    refine ⟨fun _ => ?_, fun h => by omega⟩
    have hf : all2 r = apart r := syl_full 1 h2.1 h2.2
    rw [hf, syl_apart h2.1 h2.2]
    exact ⟨_, _, rfl, cls_big (by omega)⟩
  · cases hf : tab.find? (fun t => at0 t 0 == r) with
    | none =>
      have ha : apart r = [r] := by unfold apart; rw [if_neg h1, if_neg h2, hf]
      exact ⟨fun h => ⟨r, [], all2_leaf ha, h⟩, fun _ => ha⟩
    | some t =>
      have hm := List.mem_of_find?_eq_some hf
      have hp : at0 t 0 = r := by simpa using List.find?_some hf
      have hc := tab_cls t hm
      rw [hp] at hc
      refine ⟨fun _ => ?_, fun h => by omega⟩
      cases ha : all2 r with
      | nil =>
        have hne : all2 r ≠ [] := by
          intro e
          have h3 : apart r = [at0 t 1, at0 t 2] := by unfold apart; rw [if_neg h1, if_neg h2, hf]
          have h4 : all2 r = (apart r).flatMap (full 1) ∨ all2 r = [r] := by
            by_cases hl : apart r = [r]
            · exact .inr (all2_leaf hl)
            · exact .inl (full_go hl)
          rcases h4 with h4 | h4
          · rw [e, h3] at h4
            have h5 : full 1 (at0 t 1) ≠ [] := by
              intro h6
              unfold full at h6
              split at h6
              · cases h6
              · have h7 := (apart_len (at0 t 1)).1
                cases hq : apart (at0 t 1) with
                | nil => rw [hq] at h7; simp at h7
                | cons z zs => rw [hq] at h6; simp [full] at h6
            simp only [List.flatMap_cons] at h4
            exact h5 (List.append_eq_nil_iff.1 h4.symm).1
          · rw [e] at h4; cases h4
        exact absurd ha hne
      | cons s u =>
        rw [ha] at hc
        exact ⟨s, u, rfl, hc.2⟩

theorem tog_cls {a b x : Int} (h : tog a b = some x) : cls x = 0 := by
  unfold tog at h
  split at h
  · obtain rfl := Option.some.inj h
    exact cls_big (by omega)
  · split at h
    · rename_i c
      obtain rfl := Option.some.inj h
      exact cls_big (by omega)
    · cases hf : tab.find? (fun t => at0 t 1 == a && at0 t 2 == b) with
      | none => rw [hf] at h; cases h
      | some t =>
        rw [hf] at h
        obtain rfl := Option.some.inj h
        exact (tab_cls t (List.mem_of_find?_eq_some hf)).1

/-- What has been put together so far is what has been looked at. -/
def CInv (ds : List Int) (k : Nat) (s : List Int × Nat) : Prop :=
  stk (apD s.1) = stk (ds.take k) ∧ s.2 ≤ s.1.length ∧ (0 < s.2 → cls (at0 s.1 (s.2 - 1)) = 0) ∧ (∀ b ∈ s.1.drop s.2, 0 < cls b) ∧ ∀ x ∈ s.1, goodB x = true

theorem cinv_push {ds : List Int} {k : Nat} {s : List Int × Nat} {r : Int} (h : CInv ds k s) (hk : ds[k]? = some r) (hl : apart r = [r]) (hg : goodB r = true) : CInv ds (k + 1) (push s r) := by
  obtain ⟨h1, h2, h3, h4, h5⟩ := h
  have ht : ds.take (k + 1) = ds.take k ++ [r] := by rw [List.take_add_one, hk]; rfl
  have ha : apD (s.1 ++ [r]) = apD s.1 ++ [r] := by rw [apD_append]; simp [apD, all2_leaf hl]
  have hgood : ∀ x ∈ s.1 ++ [r], goodB x = true := by
    intro x hx
    rcases List.mem_append.1 hx with hx | hx
    · exact h5 x hx
    · simp at hx; subst hx; exact hg
  unfold push
  by_cases c : cls r = 0
  · rw [if_pos c]
    refine ⟨by show stk (apD (s.1 ++ [r])) = _; rw [ha, ht, stk_snoc, stk_snoc, h1], by simp, fun _ => ?_, ?_, hgood⟩
    · show cls (at0 (s.1 ++ [r]) (s.1.length + 1 - 1)) = 0
      rw [Nat.add_sub_cancel, at0_mid]; exact c
    · show ∀ b ∈ (s.1 ++ [r]).drop (s.1.length + 1), _
      rw [List.drop_eq_nil_of_le (by simp)]; simp
  · rw [if_neg c]
    refine ⟨by show stk (apD (s.1 ++ [r])) = _; rw [ha, ht, stk_snoc, stk_snoc, h1], by simp; omega, fun h0 => ?_, ?_, hgood⟩
    · show cls (at0 (s.1 ++ [r]) (s.2 - 1)) = 0
      have h0' : 0 < s.2 := h0
      rw [at0_left _ _ _ (by omega)]; exact h3 h0'
    · show ∀ b ∈ (s.1 ++ [r]).drop s.2, _
      rw [List.drop_append_of_le_length h2]
      intro b hb
      rcases List.mem_append.1 hb with hb | hb
      · exact h4 b hb
      · simp at hb; subst hb; have := (cls_range b).1; omega

theorem split_set (l : List Int) (p : Nat) (x : Int) (h : p < l.length) : l = l.take p ++ at0 l p :: l.drop (p + 1) ∧ l.set p x = l.take p ++ x :: l.drop (p + 1) := by
  have e : at0 l p = l[p] := by simp [at0, h]
  refine ⟨?_, ?_⟩
  · rw [e, List.getElem_cons_drop, List.take_append_drop]
  · exact List.set_eq_take_append_cons_drop (l := l) (i := p) (a := x) |>.trans (by rw [if_pos h])

theorem cinv_merge {ds : List Int} {k : Nat} {s : List Int × Nat} {r x : Int} (h : CInv ds k s) (hk : ds[k]? = some r) (hl : apart r = [r]) (hq : 0 < s.2) (ht : tog (at0 s.1 (s.2 - 1)) r = some x)
    (hM : ∀ b ∈ s.1.drop s.2, cls b < cls r) : CInv ds (k + 1) (s.1.set (s.2 - 1) x, s.2) := by
  obtain ⟨h1, h2, h3, h4, h5⟩ := h
  have htk : ds.take (k + 1) = ds.take k ++ [r] := by rw [List.take_add_one, hk]; rfl
  obtain ⟨e1, e2⟩ := split_set s.1 (s.2 - 1) x (by omega)
  have hp : s.2 - 1 + 1 = s.2 := by omega
  rw [hp] at e1 e2
  have hx := tog_apart ht
  have hy := h3 hq
  generalize at0 s.1 (s.2 - 1) = y at *
  generalize s.1.take (s.2 - 1) = A at *
  have hdrop : (s.1.set (s.2 - 1) x).drop s.2 = s.1.drop s.2 := List.drop_set_of_lt (by omega)
  have hap : apD (s.1.drop s.2) = s.1.drop s.2 := apD_leaves fun b hb => (all2_head b).2 (h4 b hb)
  have hgood : ∀ z ∈ s.1.set (s.2 - 1) x, goodB z = true := by
    intro z hz
    rcases List.mem_or_eq_of_mem_set hz with hz | hz
    · exact h5 z hz
    · subst hz; exact hx.2
  refine ⟨?_, by simp; exact h2, fun _ => ?_, ?_, hgood⟩
  · show stk (apD (s.1.set (s.2 - 1) x)) = _
    obtain ⟨sx, ux, ex, cx⟩ := (all2_head x).1 (tog_cls ht)
    obtain ⟨sy, uy, ey, cy⟩ := (all2_head y).1 hy
    have hr2 : all2 r = [r] := all2_leaf hl
    have hs := stk_of_sort hx.1
    have k1 : stk (apD A ++ all2 x) = stk (apD A ++ (all2 y ++ [r])) := by
      rw [hr2] at hs
      rw [ex, ey] at hs ⊢
      rw [stk_front _ _ _ cx]
      show _ = stk (apD A ++ sy :: (uy ++ [r]))
      rw [stk_front _ _ _ cy]
      exact congrArg (· ++ stk (apD A)) hs
    have k2 := stk_append k1 (s.1.drop s.2)
    have k3 : stk (apD A ++ (all2 y ++ [r]) ++ s.1.drop s.2) = stk (apD A ++ all2 y ++ s.1.drop s.2 ++ [r]) := by
      by_cases hMe : s.1.drop s.2 = []
      · rw [hMe]; simp
      · obtain ⟨b, hb⟩ := List.exists_mem_of_ne_nil _ hMe
        have hrp : 0 < cls r := by have := h4 b hb; have := hM b hb; omega
        have := stk_past (apD A ++ all2 y) (s.1.drop s.2) r hrp (fun b hb => ⟨h4 b hb, by have := hM b hb; omega⟩)
        simpa using this
    rw [e2, apD_append, show apD (x :: s.1.drop s.2) = all2 x ++ s.1.drop s.2 from by show all2 x ++ apD (s.1.drop s.2) = _; rw [hap], ← List.append_assoc, k2, k3, htk, stk_snoc, stk_snoc]
    congr 1
    rw [← h1]
    conv => rhs; rw [e1]
    rw [apD_append, show apD (y :: s.1.drop s.2) = all2 y ++ s.1.drop s.2 from by show all2 y ++ apD (s.1.drop s.2) = _; rw [hap], List.append_assoc]
  · show cls (at0 (s.1.set (s.2 - 1) x) (s.2 - 1)) = 0
    rw [at0_set_eq _ _ _ (by omega)]; exact tog_cls ht
  · show ∀ b ∈ (s.1.set (s.2 - 1) x).drop s.2, _
    rw [hdrop]; exact h4

theorem cinv_all (ds : List Int) (hs : ∀ i, i + 1 < ds.length → Adj ds i) (hl : ∀ x ∈ ds, apart x = [x]) (hg : ∀ x ∈ ds, goodB x = true) (k : Nat) (hk : k ≤ ds.length) : CInv ds k (compS ds k) := by
  induction k with
  | zero => exact ⟨rfl, Nat.le_refl _, fun h => absurd h (by simp [compS]), by simp [compS], by simp [compS]⟩
  | succ k ih =>
    have h0 := ih (by omega)
    obtain ⟨r, hr⟩ : ∃ r, ds[k]? = some r := ⟨_, List.getElem?_eq_getElem (by omega)⟩
    have hm := List.mem_of_getElem? hr
    have hr0 : at0 ds k = r := by simp [at0, hr]
    have hP := cinv_push h0 hr (hl r hm) (hg r hm)
    show CInv ds (k + 1) (stepBy (freeS (compS ds k) (at0 ds k)) (compS ds k) (at0 ds k))
    rw [hr0]
    have hb : k = 0 ∨ Btw (compS ds k) (at0 ds (k - 1)) := (comp_same ds hs k (by omega)).2
    generalize compS ds k = s at *
    unfold stepBy
    split
    · rename_i hf
      split
      · rename_i x hx
        have hf2 := of_decide_eq_true hf
        refine cinv_merge h0 hr (hl r hm) hf2.1 hx fun b hbm => ?_
        rcases hf2.2 with hlen | hlast
        · rw [List.drop_eq_nil_of_le hlen] at hbm; cases hbm
        · by_cases hlen2 : s.1.length ≤ s.2
          · rw [List.drop_eq_nil_of_le hlen2] at hbm; cases hbm
          · obtain ⟨pre, hp⟩ := last_drop s.1 s.2 (by omega)
            rcases hb with rfl | hb
            · have h6 := h0.1
              have hs0 : s.1.drop s.2 = [] := by
                have : s.1 = [] := by
                  cases hq : s.1 with
                  | nil => rfl
                  | cons z zs =>
                    exfalso
                    rw [hq] at h6
                    have h7 : all2 z ≠ [] := fun e => by
                      have h8 := (all2_head z)
                      by_cases hz : cls z = 0
                      · obtain ⟨_, _, e3, _⟩ := h8.1 hz
                        rw [e] at e3; cases e3
                      · have h9 := h8.2 (by have := (cls_range z).1; omega)
                        rw [all2_leaf h9] at e; cases e
                    obtain ⟨y, hy⟩ := List.exists_mem_of_ne_nil _ h7
                    have h10 : y ∈ stk (apD (z :: zs)) := by
                      unfold stk
                      rw [mem_fold]
                      exact .inl (List.mem_append.2 (.inl hy))
                    rw [h6] at h10
                    simp [stk] at h10
                rw [this]; simp
              rw [hs0] at hbm; cases hbm
            · obtain ⟨_, _, _, hpw⟩ := hb
              rw [hp] at hpw hbm
              rw [List.pairwise_append] at hpw
              rcases List.mem_append.1 hbm with hbm | hbm
              · have := hpw.2.2 b hbm _ (List.mem_singleton.2 rfl); omega
              · simp at hbm; subst hbm; exact hlast.2
      · exact hP
    · exact hP

/-- Put together and taken apart is the same. -/
theorem nD_nC {zs : List Int} (hg : ∀ x ∈ zs, goodB x = true) : nD (nC zs) = nD zs ∧ ∀ x ∈ nC zs, goodB x = true := by
  have hs : ∀ i, i + 1 < (nD zs).length → Adj (nD zs) i := fun i hi => sortM_adj (apD zs) i (by rw [nD_len] at hi; exact hi)
  have hgd : ∀ x ∈ nD zs, goodB x = true := fun x hx => apD_good hg x (mem_sortM.1 hx)
  have h := cinv_all (nD zs) hs (fun x hx => nD_leaf hx) hgd (nD zs).length (Nat.le_refl _)
  refine ⟨?_, h.2.2.2.2⟩
  have h1 := h.1
  rw [List.take_length] at h1
  show sortM (apD (compS (nD zs) (nD zs).length).1) = nD zs
  rw [sortM_stk, h1, ← sortM_stk]
  exact sortM_again _

theorem nC_nC {zs : List Int} (hg : ∀ x ∈ zs, goodB x = true) : nC (nC zs) = nC zs := by
  have h := (nD_nC hg).1
  unfold nC at *
  rw [h]
end Go.Proofs.YtddelohmppdndaaGreatDoor
