/- The places at which a text may be cut, without memory. -/
import Derived.Test.YtinjldagfhbioaaGreatDoorRn4
import Derived.Test.YtinjldagfhbioaaGreatDoorPApL
import Derived.Test.YtinjldagfhbioaaGreatDoorDec
namespace Go.Proofs.YtinjldagfhbioaaGreatDoor

theorem goes_ge (t : ByteArray) (m : Nat) : ∀ f k lo hi r, f + k = m + 1 → k ≤ (Dec.goes t m f k lo hi r).2.1 := by
  intro f
  induction f with
  | zero => intro k lo hi r h; simp [Dec.goes]; omega
  | succ f ih =>
    intro k lo hi r h
    simp only [Dec.goes]
    split
    · have := ih (k + 1) 128 191 (r * 64 + Dec.bt t k % 64) (by omega)
      omega
    · exact Nat.le_refl _

theorem goes_front {t u : ByteArray} {m : Nat} (hb : ∀ k, k < u.size → Dec.bt u k = Dec.bt t k) : ∀ f k lo hi r, f + k = m + 1 → (Dec.goes t m f k lo hi r).2.1 = u.size → Dec.goes u m f k lo hi r = Dec.goes t m f k lo hi r := by
  intro f
  induction f with
  | zero => intro k lo hi r _ _; simp [Dec.goes]
  | succ f ih =>
    intro k lo hi r h hn
    simp only [Dec.goes] at hn ⊢
    by_cases c : k < t.size ∧ lo ≤ Dec.bt t k ∧ Dec.bt t k ≤ hi
    · rw [if_pos c] at hn ⊢
      have hk : k < u.size := by have := goes_ge t m f (k + 1) 128 191 (r * 64 + Dec.bt t k % 64) (by omega); omega
      rw [hb k hk, if_pos ⟨hk, c.2⟩]
      exact ih (k + 1) 128 191 _ (by omega) hn
    · rw [if_neg c] at hn ⊢
      have hk : k = u.size := hn
      rw [if_neg (fun d => by omega)]

theorem one_front {t u : ByteArray} (h0 : 0 < t.size) (hn : (Dec.one t).2.1 = u.size) (hb : ∀ k, k < u.size → Dec.bt u k = Dec.bt t k) : Dec.one u = Dec.one t := by
  have hl := Dec.one_le t h0
  have e0 := hb 0 (by omega)
  unfold Dec.one at hn ⊢
  rw [e0]
  split
  · rfl
  · rename_i c
    rw [if_neg c] at hn
    exact goes_front hb _ _ _ _ _ rfl hn

theorem size_cut (s : ByteArray) {a n : Nat} (h : a + n ≤ s.size) : (s.extract a (a + n)).size = n := by simp [ByteArray.size_extract]; omega

theorem bt_cut (s : ByteArray) {a n k : Nat} (h : a + n ≤ s.size) (hk : k < n) : Dec.bt (s.extract a (a + n)) k = Dec.bt (s.extract a s.size) k := by
  rw [Dec.bt_extract s a k (by omega)]
  have h1 : k < (s.extract a (a + n)).size := by rw [size_cut s h]; exact hk
  rw [← Dec.bt_get _ _ h1, ← Dec.bt_get _ _ (by omega : a + k < s.size)]
  simp [ByteArray.getElem_extract]

/-- A sequence alone is read as it is at the front of more. -/
theorem dec_alone (s : ByteArray) {a : Nat} (h : a < s.size) : a + (Dec.one (s.extract a s.size)).2.1 ≤ s.size ∧ 1 ≤ (Dec.one (s.extract a s.size)).2.1 ∧
    (Dec.decT (s.extract a (a + (Dec.one (s.extract a s.size)).2.1)).size (s.extract a (a + (Dec.one (s.extract a s.size)).2.1))).1 = [(Dec.one (s.extract a s.size)).1] := by
  have hz := Dec.size_extract s a
  have hl := Dec.one_le (s.extract a s.size) (by omega)
  have hle : a + (Dec.one (s.extract a s.size)).2.1 ≤ s.size := by omega
  refine ⟨hle, hl.1, ?_⟩
  have hsz := size_cut s hle
  have ho := one_front (u := s.extract a (a + (Dec.one (s.extract a s.size)).2.1)) (by omega) hsz.symm (fun k hk => bt_cut s hle (by rw [hsz] at hk; exact hk))
  generalize hN : (Dec.one (s.extract a s.size)).2.1 = n at *
  obtain ⟨m, rfl⟩ : ∃ m, n = m + 1 := ⟨n - 1, by omega⟩
  rw [hsz]
  simp only [Dec.decT]
  rw [if_pos (by omega), ho, hN]
  rw [Dec.decT_end _ _ (by rw [Dec.size_extract]; omega)]

/-- Whether a text may be cut ahead of a rune. -/
def cutB (r : Int) : Bool := decide (cls (at0 (nD [r]) 0) = 0) && !decide (4449 ≤ at0 (nD [r]) 0 ∧ at0 (nD [r]) 0 ≤ 4546)

theorem nD_one (r : Int) : 1 ≤ (nD [r]).length ∧ (nD [r]).length ≤ 9 := by
  rw [nD_len]
  have h := apD_len [r]
  have h2 := len_apD [r]
  simp at h h2
  omega

def cutsFrom (s : ByteArray) : Nat → Nat → List Int
  | 0, _ => []
  | f + 1, a => if a < s.size then (if a = 0 ∨ cutB (Dec.one (s.extract a s.size)).1 = true then [(a : Int)] else []) ++ cutsFrom s f (a + (Dec.one (s.extract a s.size)).2.1) else []

def cutsPr (s : ByteArray) : Nat → Nat → List Int
  | 0, _ => []
  | f + 1, a => if a < s.size then (if 0 < a ∧ cutB (Dec.one (s.extract a s.size)).1 = true then [(a : Int)] else []) ++ cutsPr s f (a + (Dec.one (s.extract a s.size)).2.1) else []

theorem cuts_same (s : ByteArray) : ∀ f a, 0 < a → cutsPr s f a = cutsFrom s f a := by
  intro f
  induction f with
  | zero => intro a _; rfl
  | succ f ih =>
    intro a ha
    simp only [cutsPr, cutsFrom]
    by_cases h : a < s.size
    · rw [if_pos h, if_pos h, ih _ (by omega)]
      congr 1
      by_cases c : cutB (Dec.one (s.extract a s.size)).1 = true
      · rw [if_pos ⟨ha, c⟩, if_pos (.inr c)]
      · rw [if_neg (fun d => c d.2), if_neg (fun d => by rcases d with d | d; omega; exact c d)]
    · rw [if_neg h, if_neg h]

/-- All cuts of a text. -/
def cutsL (s : ByteArray) : List Int := cutsFrom s s.size 0 ++ [(s.size : Int)]

theorem cutsFrom_end (s : ByteArray) (f a : Nat) (h : ¬ a < s.size) : cutsFrom s f a = [] := by
  cases f with
  | zero => rfl
  | succ f => simp only [cutsFrom]; rw [if_neg h]

theorem cutsPr_end (s : ByteArray) (f a : Nat) (h : ¬ a < s.size) : cutsPr s f a = [] := by
  cases f with
  | zero => rfl
  | succ f => simp only [cutsPr]; rw [if_neg h]

/-- As the program makes them: 0 first. -/
theorem cuts_prog (s : ByteArray) (h : 0 < s.size) : [(0 : Int)] ++ cutsPr s s.size 0 = cutsFrom s s.size 0 := by
  obtain ⟨f, hf⟩ : ∃ f, s.size = f + 1 := ⟨s.size - 1, by omega⟩
  rw [hf]
  simp only [cutsPr, cutsFrom]
  have hl := (dec_alone s h).2.1
  rw [if_pos h, if_pos h, if_neg (fun d => by omega), if_pos (.inl trivial), List.nil_append, cuts_same s f _ (by omega)]
  rfl

theorem cutsFrom_len (s : ByteArray) : ∀ f a, (cutsFrom s f a).length ≤ f := by
  intro f
  induction f with
  | zero => intro a; simp [cutsFrom]
  | succ f ih =>
    intro a
    simp only [cutsFrom]
    split
    · have := ih (a + (Dec.one (s.extract a s.size)).2.1)
      rw [List.length_append]
      split <;> simp <;> omega
    · simp
end Go.Proofs.YtinjldagfhbioaaGreatDoor
