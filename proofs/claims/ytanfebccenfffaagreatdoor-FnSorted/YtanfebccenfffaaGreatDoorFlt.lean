/- Small whole numbers as floats: two of them are alike just where the numbers are. -/
import Derived.Test.YtanfebccenfffaaGreatDoorProg
namespace Go.Proofs.YtanfebccenfffaaGreatDoor

theorem cut0 (neg : Bool) (n : Nat) : Ieee.Toward.even.cut neg n 0 = n := by
  unfold Ieee.Toward.cut
  simp [Nat.mod_one]

/-- The word of a small whole number. -/
def wordN (k n : Nat) : Nat := (k + 1022) * 2 ^ 52 + n * 2 ^ (52 - k)

theorem near_pos {k n : Nat} (hk : k < 16) (h1 : 2 ^ k ≤ n) (h2 : n < 2 ^ (k + 1)) : FloatKind.nearest .f64 (n : Int) = wordN k n := by
  have hn : n ≠ 0 := by have := Nat.two_pow_pos k; omega
  have hl : n.log2 = k := (Nat.log2_eq_iff hn).2 ⟨h1, h2⟩
  have h0 : ¬ ((n : Int) < 0) := by omega
  unfold FloatKind.nearest FloatKind.encode Ieee.Format.write Ieee.Format.nearest
  simp only [FloatKind.format, Int.natAbs_natCast, if_neg hn, hl, decide_eq_false h0]
  have hlast : max ((0 : Int) + (k : Int) - (Ieee.double.fractionBits : Nat)) Ieee.double.leastPlace = (k : Int) - 52 := by
    have : Ieee.double.leastPlace = -1074 := by decide
    rw [this]
    show max ((0 : Int) + (k : Int) - 52) (-1074) = _
    omega
  rw [hlast]
  have e1 : ((0 : Int) - ((k : Int) - 52)).toNat = 52 - k := by omega
  have e2 : ((k : Int) - 52 - 0).toNat = 0 := by omega
  have e3 : ((k : Int) - 52 - Ieee.double.leastPlace).toNat = k + 1022 := by
    have : Ieee.double.leastPlace = -1074 := by decide
    rw [this]; omega
  rw [e1, e2, e3, cut0, Nat.shiftLeft_eq]
  have hb : Ieee.double.binade = 2 ^ 52 := rfl
  have hi : Ieee.double.infRung = 2047 * 2 ^ 52 := rfl
  rw [hb, hi]
  have hle : n * 2 ^ (52 - k) < 2 ^ 53 := by
    have : 2 ^ (k + 1) * 2 ^ (52 - k) = 2 ^ 53 := by rw [← Nat.pow_add]; congr 1; omega
    rw [← this]
    exact Nat.mul_lt_mul_of_pos_right h2 (Nat.two_pow_pos _)
  unfold Ieee.Format.word wordN
  simp only [Bool.false_eq_true, if_false]
  rw [Nat.min_eq_left]
  omega

theorem read_pos {k n : Nat} (hk : k < 16) (h1 : 2 ^ k ≤ n) (h2 : n < 2 ^ (k + 1)) : Ieee.double.read (wordN k n) = .number false (n * 2 ^ (52 - k)) ((k : Int) - 52) := by
  have hlo : 2 ^ 52 ≤ n * 2 ^ (52 - k) := by
    have : 2 ^ k * 2 ^ (52 - k) = 2 ^ 52 := by rw [← Nat.pow_add]; congr 1; omega
    rw [← this]
    exact Nat.mul_le_mul_right _ h1
  have hhi : n * 2 ^ (52 - k) < 2 ^ 53 := by
    have : 2 ^ (k + 1) * 2 ^ (52 - k) = 2 ^ 53 := by rw [← Nat.pow_add]; congr 1; omega
    rw [← this]
    exact Nat.mul_lt_mul_of_pos_right h2 (Nat.two_pow_pos _)
  unfold wordN
  generalize n * 2 ^ (52 - k) = m at *
  have hs : Ieee.double.signWeight = 2 ^ 63 := rfl
  have hb : Ieee.double.binade = 2 ^ 52 := rfl
  have hi : Ieee.double.infRung = 2047 * 2 ^ 52 := rfl
  have hl : Ieee.double.leastPlace = -1074 := by decide
  unfold Ieee.Format.read
  rw [hs, hb, hi, hl]
  have q1 : ((k + 1022) * 2 ^ 52 + m) / 2 ^ 63 % 2 = 0 := by omega
  have q2 : ((k + 1022) * 2 ^ 52 + m) % 2 ^ 63 = (k + 1022) * 2 ^ 52 + m := by omega
  have q3 : ((k + 1022) * 2 ^ 52 + m) / 2 ^ 52 = k + 1023 := by omega
  have q4 : ((k + 1022) * 2 ^ 52 + m) % 2 ^ 52 = m - 2 ^ 52 := by omega
  have r1 : ¬ ((k + 1022) * 2 ^ 52 + m < 2 ^ 52) := by omega
  have r2 : (k + 1022) * 2 ^ 52 + m < 2047 * 2 ^ 52 := by omega
  show (if ((k + 1022) * 2 ^ 52 + m) % 2 ^ 63 < 2 ^ 52 then _ else _) = _
  rw [q1, q2, q3, q4, if_neg r1, if_pos r2]
  rw [show (2 ^ 52 + (m - 2 ^ 52) : Nat) = m by omega, show (-1074 : Int) + ((k + 1023 - 1 : Nat) : Int) = (k : Int) - 52 by omega]
  rfl

theorem order_pos {a b : Nat} (ha : 1 ≤ a) (ha2 : a < 65536) (hb : 1 ≤ b) (hb2 : b < 65536) :
    (Ieee.double.order (FloatKind.nearest .f64 (a : Int)) (FloatKind.nearest .f64 (b : Int)) == some .eq) = decide (a = b) := by
  have la : a.log2 < 16 := (Nat.log2_lt (by omega)).2 ha2
  have lb : b.log2 < 16 := (Nat.log2_lt (by omega)).2 hb2
  have a1 : 2 ^ a.log2 ≤ a := Nat.log2_self_le (by omega)
  have a2 : a < 2 ^ (a.log2 + 1) := Nat.lt_log2_self
  have b1 : 2 ^ b.log2 ≤ b := Nat.log2_self_le (by omega)
  have b2 : b < 2 ^ (b.log2 + 1) := Nat.lt_log2_self
  rw [near_pos la a1 a2, near_pos lb b1 b2]
  unfold Ieee.Format.order
  rw [read_pos la a1 a2, read_pos lb b1 b2]
  generalize a.log2 = k at *
  generalize b.log2 = j at *
  unfold Ieee.Datum.order Ieee.signed
  simp only [Bool.false_eq_true, if_false]
  obtain ⟨m, hm⟩ : ∃ m : Nat, min k j = m := ⟨_, rfl⟩
  have e1 : ((k : Int) - 52 - min ((k : Int) - 52) ((j : Int) - 52)).toNat = k - m := by omega
  have e2 : ((j : Int) - 52 - min ((k : Int) - 52) ((j : Int) - 52)).toNat = j - m := by omega
  rw [e1, e2]
  have f1 : (a * 2 ^ (52 - k)) <<< (k - m) = a * 2 ^ (52 - m) := by
    rw [Nat.shiftLeft_eq, Nat.mul_assoc, ← Nat.pow_add]; congr 2; omega
  have f2 : (b * 2 ^ (52 - j)) <<< (j - m) = b * 2 ^ (52 - m) := by
    rw [Nat.shiftLeft_eq, Nat.mul_assoc, ← Nat.pow_add]; congr 2; omega
  rw [f1, f2]
  have hp := Nat.two_pow_pos (52 - m)
  by_cases h : a = b
  · subst h
    simp
  · have hne : ((a * 2 ^ (52 - m) : Nat) : Int) ≠ ((b * 2 ^ (52 - m) : Nat) : Int) := by
      intro c
      have c2 : a * 2 ^ (52 - m) = b * 2 ^ (52 - m) := by omega
      exact h (Nat.eq_of_mul_eq_mul_right hp c2)
    rw [decide_eq_false h]
    simp only [beq_eq_false_iff_ne, ne_eq, Option.some.injEq]
    intro c
    exact hne (Std.LawfulEqCmp.eq_of_compare c)
end Go.Proofs.YtanfebccenfffaaGreatDoor
