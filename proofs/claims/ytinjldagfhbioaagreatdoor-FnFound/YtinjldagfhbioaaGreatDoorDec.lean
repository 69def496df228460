/- Plain mathematics, no program in it: how one rune is read from the front of bytes, how all are, and that the language's own decoding gives the same rune. -/
import GoSem.Core.Utf8
namespace Go.Proofs.YtinjldagfhbioaaGreatDoor.Dec

def bt (s : ByteArray) (k : Nat) : Nat := (s.get! k).toNat

theorem bt_lt (s : ByteArray) (k : Nat) : bt s k < 256 := (s.get! k).toNat_lt

theorem bt_get (s : ByteArray) (k : Nat) (h : k < s.size) : (s[k]'h).toNat = bt s k := by
  unfold bt
  simp [ByteArray.get!, getElem!_pos, h]
  rfl

def more (b : Nat) : Int :=
  if b < 128 then 0 else if b < 194 then -1 else if b < 224 then 1 else if b < 240 then 2 else if b < 245 then 3 else -1
def lo1 (b : Nat) : Nat := if b = 224 then 160 else if b = 240 then 144 else 128
def hi1 (b : Nat) : Nat := if b = 237 then 159 else if b = 244 then 143 else 191

def lo0 (b : Nat) : Nat := if more b ≤ 0 then 0 else lo1 b
def hi0 (b : Nat) : Nat := if more b ≤ 0 then 0 else hi1 b

theorem more_cases (b : Nat) : more b = -1 ∨ more b = 0 ∨ more b = 1 ∨ more b = 2 ∨ more b = 3 := by
  unfold more; repeat' split
  all_goals omega

def goes (t : ByteArray) (m : Nat) : Nat → Nat → Nat → Nat → Nat → Int × Nat × Bool
  | 0, _, _, _, r => (r, m + 1, true)
  | f + 1, k, lo, hi, r => if k < t.size ∧ lo ≤ bt t k ∧ bt t k ≤ hi then goes t m f (k + 1) 128 191 (r * 64 + bt t k % 64) else (65533, k, false)

def first (b m : Nat) : Nat := match m with | 0 => b | 1 => b % 32 | 2 => b % 16 | _ => b % 8

def one (t : ByteArray) : Int × Nat × Bool :=
  if more (bt t 0) < 0 then (65533, 1, false)
  else goes t (more (bt t 0)).toNat (more (bt t 0)).toNat 1 (lo1 (bt t 0)) (hi1 (bt t 0)) (first (bt t 0) (more (bt t 0)).toNat)

theorem goes_le (t : ByteArray) (m : Nat) : ∀ f k lo hi r, f + k = m + 1 → 1 ≤ k → k ≤ t.size →
    1 ≤ (goes t m f k lo hi r).2.1 ∧ (goes t m f k lo hi r).2.1 ≤ t.size := by
  intro f
  induction f with
  | zero => intro k lo hi r h1 h2 h3; simp [goes]; omega
  | succ f ih =>
    intro k lo hi r h1 h2 h3
    simp only [goes]
    split
    · exact ih (k + 1) 128 191 _ (by omega) (by omega) (by omega)
    · exact ⟨h2, h3⟩

theorem one_le (t : ByteArray) (h : 0 < t.size) : 1 ≤ (one t).2.1 ∧ (one t).2.1 ≤ t.size := by
  unfold one
  split
  · simp; omega
  · exact goes_le t _ _ _ _ _ _ rfl (Nat.le_refl _) (by omega)

def decT : Nat → ByteArray → List Int × Nat
  | 0, _ => ([], 0)
  | f + 1, t => if 0 < t.size then
      ((one t).1 :: (decT f (t.extract (one t).2.1 t.size)).1, (decT f (t.extract (one t).2.1 t.size)).2 + (if (one t).2.2 then 0 else 1))
    else ([], 0)

theorem decT_end (f : Nat) (t : ByteArray) (h : t.size = 0) : decT f t = ([], 0) := by
  cases f with
  | zero => rfl
  | succ f => simp [decT, h]

theorem size_extract (t : ByteArray) (n : Nat) : (t.extract n t.size).size = t.size - n := by
  simp [ByteArray.size_extract]

theorem bt_extract (t : ByteArray) (n k : Nat) (h : n + k < t.size) : bt (t.extract n t.size) k = bt t (n + k) := by
  have h1 : k < (t.extract n t.size).size := by rw [size_extract t n]; omega
  rw [← bt_get _ _ h1, ← bt_get _ _ h]
  simp [ByteArray.getElem_extract]

theorem extract_extract (t : ByteArray) (n m : Nat) : (t.extract n t.size).extract m (t.extract n t.size).size = t.extract (n + m) t.size := by
  ext i
  · simp [ByteArray.size_extract]; omega
  · simp [Nat.add_assoc]

theorem decT_len : ∀ f t, t.size ≤ f → (decT f t).1.length ≤ t.size ∧ (decT f t).2 ≤ t.size := by
  intro f
  induction f with
  | zero => intro t _; simp [decT]
  | succ f ih =>
    intro t h
    simp only [decT]
    split
    · rename_i h0
      have h1 := one_le t h0
      have h2 := size_extract t (one t).2.1
      have h3 := ih (t.extract (one t).2.1 t.size) (by omega)
      simp only [List.length_cons]
      constructor
      · omega
      · split <;> omega
    · simp

theorem goes_yes {t : ByteArray} {m f k lo hi r : Nat} (x : Nat) (hx : bt t k = x) (h : k < t.size ∧ lo ≤ x ∧ x ≤ hi) :
    goes t m (f + 1) k lo hi r = goes t m f (k + 1) 128 191 (r * 64 + x % 64) := by
  subst hx; simp only [goes, if_pos h]

theorem goes_no {t : ByteArray} {m f k lo hi r : Nat} (h : ¬ (k < t.size ∧ lo ≤ bt t k ∧ bt t k ≤ hi)) :
    goes t m (f + 1) k lo hi r = (65533, k, false) := by
  simp only [goes, if_neg h]

theorem lo_hi (x0 x1 : Nat) : (lo1 x0 ≤ x1 ∧ x1 ≤ hi1 x0) ↔ (128 ≤ x1 ∧ x1 ≤ 191 ∧ (x0 = 224 → 160 ≤ x1) ∧ (x0 = 240 → 144 ≤ x1) ∧ (x0 = 237 → x1 ≤ 159) ∧ (x0 = 244 → x1 ≤ 143)) := by
  unfold lo1 hi1
  repeat' split
  all_goals omega

set_option maxHeartbeats 2000000 in
/-- The language's own decoding gives the same rune; its width is that of the sequence where it is whole, else one byte. -/
theorem decode_one (s : ByteArray) (p : Nat) (h : p < s.size) :
    ((Utf8.decode s p).1 : Int) = (one (s.extract p s.size)).1 ∧
    (Utf8.decode s p).2 = (if (one (s.extract p s.size)).2.2 then (one (s.extract p s.size)).2.1 else 1) := by
  have e0 := bt_extract s p 0 (by omega)
  have e1 : p + 1 < s.size → bt (s.extract p s.size) 1 = bt s (p + 1) := bt_extract s p 1
  have e2 : p + 2 < s.size → bt (s.extract p s.size) 2 = bt s (p + 2) := bt_extract s p 2
  have e3 : p + 3 < s.size → bt (s.extract p s.size) 3 = bt s (p + 3) := bt_extract s p 3
  have hsz := size_extract s p
  generalize s.extract p s.size = t at *
  have b0 := bt_lt s (p + 0); have b1 := bt_lt s (p + 1); have b2 := bt_lt s (p + 2); have b3 := bt_lt s (p + 3)
  have d : Utf8.decode s p = (if bt s (p + 0) < 0x80 then (bt s (p + 0), 1)
    else if (bt s (p + 0) / 32 == 6 && (decide (p + 1 < s.size) && bt s (p + 1) / 64 == 2)) = true then
      if (bt s (p + 0) % 32) * 64 + bt s (p + 1) % 64 ≥ 0x80 then ((bt s (p + 0) % 32) * 64 + bt s (p + 1) % 64, 2) else (Utf8.runeError, 1)
    else if (bt s (p + 0) / 16 == 14 && (decide (p + 1 < s.size) && bt s (p + 1) / 64 == 2) && (decide (p + 2 < s.size) && bt s (p + 2) / 64 == 2)) = true then
      if (decide ((bt s (p + 0) % 16) * 4096 + (bt s (p + 1) % 64) * 64 + bt s (p + 2) % 64 ≥ 0x800) && Utf8.valid (((bt s (p + 0) % 16) * 4096 + (bt s (p + 1) % 64) * 64 + bt s (p + 2) % 64 : Nat) : Int)) = true then ((bt s (p + 0) % 16) * 4096 + (bt s (p + 1) % 64) * 64 + bt s (p + 2) % 64, 3) else (Utf8.runeError, 1)
    else if (bt s (p + 0) / 8 == 30 && (decide (p + 1 < s.size) && bt s (p + 1) / 64 == 2) && (decide (p + 2 < s.size) && bt s (p + 2) / 64 == 2) && (decide (p + 3 < s.size) && bt s (p + 3) / 64 == 2)) = true then
      if (decide ((bt s (p + 0) % 8) * 262144 + (bt s (p + 1) % 64) * 4096 + (bt s (p + 2) % 64) * 64 + bt s (p + 3) % 64 ≥ 0x10000) && Utf8.valid (((bt s (p + 0) % 8) * 262144 + (bt s (p + 1) % 64) * 4096 + (bt s (p + 2) % 64) * 64 + bt s (p + 3) % 64 : Nat) : Int)) = true then ((bt s (p + 0) % 8) * 262144 + (bt s (p + 1) % 64) * 4096 + (bt s (p + 2) % 64) * 64 + bt s (p + 3) % 64, 4) else (Utf8.runeError, 1)
    else (Utf8.runeError, 1)) := rfl
  rw [d]
  clear d
  unfold one
  rw [e0]
  clear e0
  generalize bt s (p + 0) = x0 at *
  generalize bt s (p + 1) = x1 at *
  generalize bt s (p + 2) = x2 at *
  generalize bt s (p + 3) = x3 at *
  by_cases c0 : x0 < 128
  · simp [more, c0, goes, first]
  by_cases c1 : x0 < 194
  · have a : ¬ (x0 / 16 = 14) := by omega
    have b : ¬ (x0 / 8 = 30) := by omega
    simp only [more, if_neg c0, if_pos c1]
    simp [a, b, Utf8.runeError]
    split <;> (try split) <;> simp <;> omega
  by_cases c2 : x0 < 224
  · have a : x0 / 32 = 6 := by omega
    have a2 : ¬ (x0 / 16 = 14) := by omega
    have a3 : ¬ (x0 / 8 = 30) := by omega
    have lh := lo_hi x0 x1
    simp only [more, if_neg c0, if_neg c1, if_pos c2]
    rw [if_neg (show ¬ ((1 : Int) < 0) by decide)]
    simp only [show (1 : Int).toNat = 1 from rfl]
    by_cases c : p + 1 < s.size ∧ x1 / 64 = 2
    · have v : 128 ≤ x0 % 32 * 64 + x1 % 64 := by omega
      rw [goes_yes x1 (e1 c.1) ⟨by omega, by omega⟩]
      simp [goes, first, a, c, v]
    · have f : ¬ (1 < t.size ∧ lo1 x0 ≤ bt t 1 ∧ bt t 1 ≤ hi1 x0) := by
        intro ⟨f1, f2⟩; rw [e1 (by omega)] at f2; omega
      rw [goes_no f]
      simp only [beq_iff_eq, Bool.and_eq_true, decide_eq_true_eq]
      rw [if_neg (fun q => c ⟨q.2.1, q.2.2⟩), if_neg (fun q => a2 q.1.1), if_neg (fun q => a3 q.1.1.1)]
      simp [Utf8.runeError]
  by_cases c3 : x0 < 240
  · have a : ¬ (x0 / 32 = 6) := by omega
    have a2 : x0 / 16 = 14 := by omega
    have a3 : ¬ (x0 / 8 = 30) := by omega
    have lh := lo_hi x0 x1
    simp only [more, if_neg c0, if_neg c1, if_neg c2, if_pos c3]
    rw [if_neg (show ¬ ((2 : Int) < 0) by decide)]
    simp only [show (2 : Int).toNat = 2 from rfl]
    simp only [beq_iff_eq, Bool.and_eq_true, decide_eq_true_eq]
    rw [if_neg (fun q => a q.1)]
    by_cases c : p + 1 < s.size ∧ lo1 x0 ≤ x1 ∧ x1 ≤ hi1 x0
    · rw [goes_yes x1 (e1 c.1) ⟨by omega, c.2⟩]
      by_cases cc : p + 2 < s.size ∧ x2 / 64 = 2
      · have v : x0 % 16 * 4096 + x1 % 64 * 64 + x2 % 64 ≥ 2048 ∧ Utf8.valid ((x0 % 16 * 4096 + x1 % 64 * 64 + x2 % 64 : Nat) : Int) = true := by
          simp only [Utf8.valid, Bool.or_eq_true, Bool.and_eq_true, decide_eq_true_eq]; omega
        rw [goes_yes x2 (e2 cc.1) ⟨by omega, by omega, by omega⟩]
        rw [if_pos ⟨⟨a2, c.1, by omega⟩, cc⟩, if_pos v]
        simp [goes, first]; omega
      · have f : ¬ (1 + 1 < t.size ∧ 128 ≤ bt t (1 + 1) ∧ bt t (1 + 1) ≤ 191) := by
          intro ⟨f1, f2⟩
          have := e2 (by omega)
          rw [show 1 + 1 = 2 from rfl, this] at f2; omega
        rw [goes_no f, if_neg (fun q => cc q.2), if_neg (fun q => a3 q.1.1.1)]
        simp [Utf8.runeError]
    · have f : ¬ (1 < t.size ∧ lo1 x0 ≤ bt t 1 ∧ bt t 1 ≤ hi1 x0) := by
        intro ⟨f1, f2⟩; rw [e1 (by omega)] at f2; exact c ⟨by omega, f2⟩
      rw [goes_no f]
      by_cases cc : (x0 / 16 = 14 ∧ p + 1 < s.size ∧ x1 / 64 = 2) ∧ p + 2 < s.size ∧ x2 / 64 = 2
      · have v : ¬ (x0 % 16 * 4096 + x1 % 64 * 64 + x2 % 64 ≥ 2048 ∧ Utf8.valid ((x0 % 16 * 4096 + x1 % 64 * 64 + x2 % 64 : Nat) : Int) = true) := by
          simp only [Utf8.valid, Bool.or_eq_true, Bool.and_eq_true, decide_eq_true_eq]; omega
        rw [if_pos cc, if_neg v]
        simp [Utf8.runeError]
      · rw [if_neg cc, if_neg (fun q => a3 q.1.1.1)]
        simp [Utf8.runeError]
  by_cases c4 : x0 < 245
  · have a : ¬ (x0 / 32 = 6) := by omega
    have a2 : ¬ (x0 / 16 = 14) := by omega
    have a3 : x0 / 8 = 30 := by omega
    have lh := lo_hi x0 x1
    simp only [more, if_neg c0, if_neg c1, if_neg c2, if_neg c3, if_pos c4]
    rw [if_neg (show ¬ ((3 : Int) < 0) by decide)]
    simp only [show (3 : Int).toNat = 3 from rfl]
    simp only [beq_iff_eq, Bool.and_eq_true, decide_eq_true_eq]
    rw [if_neg (fun q => a q.1), if_neg (fun q => a2 q.1.1)]
    by_cases c : p + 1 < s.size ∧ lo1 x0 ≤ x1 ∧ x1 ≤ hi1 x0
    · rw [goes_yes x1 (e1 c.1) ⟨by omega, c.2⟩]
      by_cases cc : p + 2 < s.size ∧ x2 / 64 = 2
      · rw [goes_yes x2 (e2 cc.1) ⟨by omega, by omega, by omega⟩]
        by_cases c5 : p + 3 < s.size ∧ x3 / 64 = 2
        · have v : x0 % 8 * 262144 + x1 % 64 * 4096 + x2 % 64 * 64 + x3 % 64 ≥ 65536 ∧ Utf8.valid ((x0 % 8 * 262144 + x1 % 64 * 4096 + x2 % 64 * 64 + x3 % 64 : Nat) : Int) = true := by
            simp only [Utf8.valid, Bool.or_eq_true, Bool.and_eq_true, decide_eq_true_eq]; omega
          rw [goes_yes x3 (e3 c5.1) ⟨by omega, by omega, by omega⟩]
          rw [if_pos ⟨⟨⟨a3, c.1, by omega⟩, cc⟩, c5⟩, if_pos v]
          simp [goes, first]; omega
        · have f : ¬ (1 + 1 + 1 < t.size ∧ 128 ≤ bt t (1 + 1 + 1) ∧ bt t (1 + 1 + 1) ≤ 191) := by
            intro ⟨f1, f2⟩
            have := e3 (by omega)
            rw [show 1 + 1 + 1 = 3 from rfl, this] at f2; omega
          rw [goes_no f, if_neg (fun q => c5 q.2)]
          simp [Utf8.runeError]
      · have f : ¬ (1 + 1 < t.size ∧ 128 ≤ bt t (1 + 1) ∧ bt t (1 + 1) ≤ 191) := by
          intro ⟨f1, f2⟩
          have := e2 (by omega)
          rw [show 1 + 1 = 2 from rfl, this] at f2; omega
        rw [goes_no f, if_neg (fun q => cc q.1.2)]
        simp [Utf8.runeError]
    · have f : ¬ (1 < t.size ∧ lo1 x0 ≤ bt t 1 ∧ bt t 1 ≤ hi1 x0) := by
        intro ⟨f1, f2⟩; rw [e1 (by omega)] at f2; exact c ⟨by omega, f2⟩
      rw [goes_no f]
      by_cases cc : ((x0 / 8 = 30 ∧ p + 1 < s.size ∧ x1 / 64 = 2) ∧ p + 2 < s.size ∧ x2 / 64 = 2) ∧ p + 3 < s.size ∧ x3 / 64 = 2
      · have v : ¬ (x0 % 8 * 262144 + x1 % 64 * 4096 + x2 % 64 * 64 + x3 % 64 ≥ 65536 ∧ Utf8.valid ((x0 % 8 * 262144 + x1 % 64 * 4096 + x2 % 64 * 64 + x3 % 64 : Nat) : Int) = true) := by
          simp only [Utf8.valid, Bool.or_eq_true, Bool.and_eq_true, decide_eq_true_eq]; omega
        rw [if_pos cc, if_neg v]
        simp [Utf8.runeError]
      · rw [if_neg cc]
        simp [Utf8.runeError]
  · have a : ¬ (x0 / 32 = 6) := by omega
    have a2 : ¬ (x0 / 16 = 14) := by omega
    simp only [more, if_neg c0, if_neg c1, if_neg c2, if_neg c3, if_neg c4]
    rw [if_pos (show ((-1 : Int) < 0) by decide)]
    simp only [beq_iff_eq, Bool.and_eq_true, decide_eq_true_eq]
    rw [if_neg (fun q => a q.1), if_neg (fun q => a2 q.1.1)]
    by_cases cc : ((x0 / 8 = 30 ∧ p + 1 < s.size ∧ x1 / 64 = 2) ∧ p + 2 < s.size ∧ x2 / 64 = 2) ∧ p + 3 < s.size ∧ x3 / 64 = 2
    · have v : ¬ (x0 % 8 * 262144 + x1 % 64 * 4096 + x2 % 64 * 64 + x3 % 64 ≥ 65536 ∧ Utf8.valid ((x0 % 8 * 262144 + x1 % 64 * 4096 + x2 % 64 * 64 + x3 % 64 : Nat) : Int) = true) := by
        simp only [Utf8.valid, Bool.or_eq_true, Bool.and_eq_true, decide_eq_true_eq]; omega
      rw [if_pos cc, if_neg v]
      simp [Utf8.runeError]
    · rw [if_neg cc]
      simp [Utf8.runeError]

/-- Of a sequence that breaks off the bytes behind the first one are further bytes. -/
theorem goes_cont (t : ByteArray) (m : Nat) : ∀ f k lo hi r, 128 ≤ lo → hi ≤ 191 → 1 ≤ k → (∀ j, 1 ≤ j → j < k → 128 ≤ bt t j ∧ bt t j ≤ 191) →
    (goes t m f k lo hi r).2.2 = false → ∀ j, 1 ≤ j → j < (goes t m f k lo hi r).2.1 → 128 ≤ bt t j ∧ bt t j ≤ 191 := by
  intro f
  induction f with
  | zero => intro k lo hi r _ _ _ _ h; simp [goes] at h
  | succ f ih =>
    intro k lo hi r hlo hhi hk hj h
    simp only [goes] at h ⊢
    split
    · rename_i c
      rw [if_pos c] at h
      refine ih (k + 1) 128 191 _ (by omega) (by omega) (by omega) ?_ h
      intro j j1 j2
      by_cases e : j = k
      · subst e; omega
      · exact hj j j1 (by omega)
    · exact hj

theorem one_cont (t : ByteArray) (h : (one t).2.2 = false) : ∀ j, 1 ≤ j → j < (one t).2.1 → 128 ≤ bt t j ∧ bt t j ≤ 191 := by
  unfold one at h ⊢
  split
  · intro j j1 j2; simp at j2; omega
  · rename_i c
    rw [if_neg c] at h
    refine goes_cont t _ _ _ _ _ _ ?_ ?_ (Nat.le_refl _) (fun j j1 j2 => by omega) h
    · unfold lo1; repeat' split
      all_goals omega
    · unfold hi1; repeat' split
      all_goals omega

/-- A further byte by itself is read as one byte. -/
theorem decode_cont (s : ByteArray) (p : Nat) (h : p < s.size) (h1 : 128 ≤ bt s p) (h2 : bt s p ≤ 191) : (Utf8.decode s p).2 = 1 := by
  rw [(decode_one s p h).2]
  have e0 := bt_extract s p 0 (by omega)
  have m : more (bt (s.extract p s.size) 0) = -1 := by
    rw [e0, Nat.add_zero]; unfold more; repeat' split
    all_goals omega
  have o : one (s.extract p s.size) = (65533, 1, false) := by unfold one; rw [m]; rfl
  rw [o]; rfl

theorem goes_bd (t : ByteArray) (m : Nat) : ∀ f k lo hi r, (goes t m f k lo hi r).1 = 65533 ∨ (0 ≤ (goes t m f k lo hi r).1 ∧ (goes t m f k lo hi r).1 < ((r + 1) * 64 ^ f : Nat)) := by
  intro f
  induction f with
  | zero => intro k lo hi r; simp [goes]; omega
  | succ f ih =>
    intro k lo hi r
    simp only [goes]
    split
    · rcases ih (k + 1) 128 191 (r * 64 + bt t k % 64) with h | h
      · exact .inl h
      · refine .inr ⟨h.1, Int.lt_of_lt_of_le h.2 ?_⟩
        have : (r * 64 + bt t k % 64 + 1) * 64 ^ f ≤ (r + 1) * 64 ^ (f + 1) := by
          rw [Nat.pow_succ, Nat.mul_comm (64 ^ f) 64, ← Nat.mul_assoc]
          exact Nat.mul_le_mul_right _ (by omega)
        exact_mod_cast this
    · exact .inl rfl

end Go.Proofs.YtinjldagfhbioaaGreatDoor.Dec
