/- The lists of chapter 2, without memory: classes, sorting of marks, taking apart, putting together; and what is so of them. -/
import Derived.Test.YtinjldagfhbioaaGreatDoorProg
namespace Go.Proofs.YtinjldagfhbioaaGreatDoor

def cls (r : Int) : Int :=
  if r = 768 then 230 else if r = 769 then 230 else if r = 770 then 230 else if r = 771 then 230 else if r = 772 then 230 else if r = 774 then 230 else if r = 775 then 230 else if r = 776 then 230 else if r = 778 then 230 else if r = 780 then 230
  else if r = 803 then 220 else if r = 817 then 220 else if r = 807 then 202 else if r = 808 then 202 else if r = 824 then 1 else 0

theorem cls_range (r : Int) : 0 ≤ cls r ∧ cls r ≤ 230 := by
  unfold cls; repeat' split
  all_goals omega

def at0 (l : List Int) (k : Nat) : Int := l[k]?.getD 0

theorem at0_set_eq (l : List Int) (k : Nat) (x : Int) (h : k < l.length) : at0 (l.set k x) k = x := by simp [at0, h]
theorem at0_set_ne (l : List Int) (k j : Nat) (x : Int) (h : k ≠ j) : at0 (l.set k x) j = at0 l j := by simp [at0, List.getElem?_set_ne h]

/-- Two neighbours change places. -/
def swp (l : List Int) (k : Nat) : List Int := (l.set (k + 1) (at0 l k)).set k (at0 l (k + 1))

theorem swp_length (l : List Int) (k : Nat) : (swp l k).length = l.length := by simp [swp]
theorem swp_lo (l : List Int) (k : Nat) (h : k + 1 < l.length) : at0 (swp l k) k = at0 l (k + 1) := at0_set_eq _ _ _ (by simp; omega)
theorem swp_hi (l : List Int) (k : Nat) (h : k + 1 < l.length) : at0 (swp l k) (k + 1) = at0 l k := by
  rw [swp, at0_set_ne _ _ _ _ (by omega), at0_set_eq _ _ _ h]
theorem swp_ne (l : List Int) (k j : Nat) (h1 : j ≠ k) (h2 : j ≠ k + 1) : at0 (swp l k) j = at0 l j := by
  rw [swp, at0_set_ne _ _ _ _ (by omega), at0_set_ne _ _ _ _ (by omega)]

/-- One rune goes down from place k as long as it is a mark and the one ahead has a greater class. -/
def bub (l : List Int) : Nat → List Int
  | 0 => l
  | k + 1 => if 0 < cls (at0 l (k + 1)) ∧ cls (at0 l (k + 1)) < cls (at0 l k) then bub ((l.set (k + 1) (at0 l k)).set k (at0 l (k + 1))) k else l

def srt (l : List Int) : Nat → List Int
  | 0 => l
  | i + 1 => bub (srt l i) i

def sortM (l : List Int) : List Int := srt l l.length

theorem bub_length (l : List Int) (k : Nat) : (bub l k).length = l.length := by
  induction k generalizing l with
  | zero => rfl
  | succ k ih =>
    simp only [bub]
    split
    · rw [ih]; simp
    · rfl

theorem srt_length (l : List Int) (i : Nat) : (srt l i).length = l.length := by
  induction i with
  | zero => rfl
  | succ i ih => simp only [srt]; rw [bub_length, ih]

theorem sortM_length (l : List Int) : (sortM l).length = l.length := srt_length l _

theorem bub_go (l : List Int) (k : Nat) (h : 0 < cls (at0 l (k + 1)) ∧ cls (at0 l (k + 1)) < cls (at0 l k)) : bub l (k + 1) = bub ((l.set (k + 1) (at0 l k)).set k (at0 l (k + 1))) k := by
  simp only [bub, if_pos h]
theorem bub_stop (l : List Int) (k : Nat) (h : ¬ (0 < cls (at0 l (k + 1)) ∧ cls (at0 l (k + 1)) < cls (at0 l k))) : bub l (k + 1) = l := by
  simp only [bub, if_neg h]

/-- The program's way: one rune goes down from place f + k, not past place f, as long as the one ahead has a greater class. -/
def bubX (f : Nat) (l : List Int) : Nat → List Int
  | 0 => l
  | k + 1 => if cls (at0 l (f + k + 1)) < cls (at0 l (f + k)) then bubX f ((l.set (f + k) (at0 l (f + k + 1))).set (f + k + 1) (at0 l (f + k))) k else l

def srtX (f : Nat) (l : List Int) : Nat → List Int
  | 0 => l
  | i + 1 => bubX f (srtX f l i) i

theorem bubX_length (f : Nat) (l : List Int) (k : Nat) : (bubX f l k).length = l.length := by
  induction k generalizing l with
  | zero => rfl
  | succ k ih =>
    simp only [bubX]
    split
    · rw [ih]; simp
    · rfl

theorem srtX_length (f : Nat) (l : List Int) (i : Nat) : (srtX f l i).length = l.length := by
  induction i with
  | zero => rfl
  | succ i ih => simp only [srtX]; rw [bubX_length, ih]

theorem bubX_go (f : Nat) (l : List Int) (k : Nat) (h : cls (at0 l (f + k + 1)) < cls (at0 l (f + k))) : bubX f l (k + 1) = bubX f ((l.set (f + k) (at0 l (f + k + 1))).set (f + k + 1) (at0 l (f + k))) k := by
  simp only [bubX, if_pos h]
theorem bubX_stop (f : Nat) (l : List Int) (k : Nat) (h : ¬ cls (at0 l (f + k + 1)) < cls (at0 l (f + k))) : bubX f l (k + 1) = l := by
  simp only [bubX, if_neg h]

theorem swp_other (l : List Int) (k : Nat) : (l.set k (at0 l (k + 1))).set (k + 1) (at0 l k) = swp l k := by
  unfold swp
  exact (List.set_comm _ _ (by omega)).symm

/-- From f to a all are marks, and what stands ahead of f is none. -/
def Run (f a : Nat) (l : List Int) : Prop := (∀ j, f ≤ j → j < a → 0 < cls (at0 l j)) ∧ (f = 0 ∨ cls (at0 l (f - 1)) = 0)

theorem run_swp {f a k : Nat} {l : List Int} (h : Run f a l) (hk : f ≤ k) (ha : k + 1 < a) (hl : k + 1 < l.length) : Run f a (swp l k) := by
  refine ⟨fun j h1 h2 => ?_, ?_⟩
  · by_cases e1 : j = k
    · subst e1; rw [swp_lo _ _ hl]; exact h.1 _ (by omega) (by omega)
    · by_cases e2 : j = k + 1
      · subst e2; rw [swp_hi _ _ hl]; exact h.1 _ (by omega) (by omega)
      · rw [swp_ne _ _ _ e1 e2]; exact h.1 j h1 h2
  · rcases h.2 with h2 | h2
    · exact .inl h2
    · by_cases e : f = 0
      · exact .inl e
      · right; rw [swp_ne _ _ _ (by omega) (by omega)]; exact h2

theorem bub_bubX {f a : Nat} (k : Nat) (l : List Int) (h : Run f a l) (hk : f + k < a) (hl : f + k < l.length) : bub l (f + k) = bubX f l k ∧ Run f a (bubX f l k) := by
  induction k generalizing l with
  | zero =>
    refine ⟨?_, h⟩
    show bub l f = l
    cases f with
    | zero => rfl
    | succ p =>
      refine bub_stop l p fun c => ?_
      rcases h.2 with h2 | h2
      · omega
      · have h3 : cls (at0 l p) = 0 := h2
        omega
  | succ k ih =>
    have hm := h.1 (f + k + 1) (by omega) (by omega)
    by_cases c : cls (at0 l (f + k + 1)) < cls (at0 l (f + k))
    · rw [bubX_go f l k c, swp_other, show f + (k + 1) = (f + k) + 1 by omega, bub_go l (f + k) ⟨hm, c⟩]
      exact ih (swp l (f + k)) (run_swp h (by omega) (by omega) (by omega)) (by omega) (by rw [swp_length]; omega)
    · rw [bubX_stop f l k c, show f + (k + 1) = (f + k) + 1 by omega, bub_stop l (f + k) (fun h => c h.2)]
      exact ⟨rfl, h⟩

theorem bub_above (l : List Int) (k j : Nat) (h : k < j) : at0 (bub l k) j = at0 l j := by
  induction k generalizing l with
  | zero => rfl
  | succ k ih =>
    by_cases c : 0 < cls (at0 l (k + 1)) ∧ cls (at0 l (k + 1)) < cls (at0 l k)
    · rw [bub_go l k c]
      rw [ih _ (by omega)]
      exact swp_ne l k j (by omega) (by omega)
    · rw [bub_stop l k c]

theorem srt_above (l : List Int) (i j : Nat) (h : i ≤ j) : at0 (srt l i) j = at0 l j := by
  induction i with
  | zero => rfl
  | succ i ih => rw [srt, bub_above _ _ _ (by omega), ih (by omega)]

/-- A run of marks sorted by itself is sorted in its list. -/
theorem srtX_srt {f : Nat} (m : Nat) (zs : List Int) (hf : f + m ≤ zs.length) (h0 : f = 0 ∨ cls (at0 (srt zs f) (f - 1)) = 0) (hm : ∀ j, f ≤ j → j < f + m → 0 < cls (at0 zs j)) :
    srtX f (srt zs f) m = srt zs (f + m) ∧ Run f (f + m) (srt zs (f + m)) := by
  induction m with
  | zero => exact ⟨rfl, fun j h1 h2 => by omega, h0⟩
  | succ m ih =>
    obtain ⟨e, hr⟩ := ih (by omega) (fun j h1 h2 => hm j h1 (by omega))
    have hr2 : Run f (f + m + 1) (srt zs (f + m)) := by
      refine ⟨fun j h1 h2 => ?_, hr.2⟩
      by_cases ej : j = f + m
      · subst ej; rw [srt_above _ _ _ (Nat.le_refl _)]; exact hm _ h1 (by omega)
      · exact hr.1 j h1 (by omega)
    have := bub_bubX m (srt zs (f + m)) hr2 (by omega) (by rw [srt_length]; omega)
    refine ⟨?_, ?_⟩
    · show bubX f (srtX f (srt zs f) m) m = _
      rw [e, ← this.1]; rfl
    · show Run f (f + m + 1) (bub (srt zs (f + m)) (f + m))
      rw [this.1]; exact this.2

/-- A starter stays. -/
theorem srt_starter (zs : List Int) (a : Nat) (h : cls (at0 zs a) = 0) : srt zs (a + 1) = srt zs a := by
  show bub (srt zs a) a = _
  cases a with
  | zero => rfl
  | succ a =>
    refine bub_stop _ _ fun c => ?_
    rw [srt_above _ _ _ (Nat.le_refl _), h] at c
    omega

/-- A mark is not less than what stands ahead of it. -/
def Adj (l : List Int) (i : Nat) : Prop := 0 < cls (at0 l (i + 1)) → cls (at0 l i) ≤ cls (at0 l (i + 1))

theorem bub_adj (m k : Nat) (l : List Int) (hm : m < l.length) (hk : k ≤ m) (h : ∀ i, i < m → i + 1 ≠ k → Adj l i) (hgap : ∀ p, k = p + 1 → k < m → 0 < cls (at0 l (k + 1)) → cls (at0 l p) ≤ cls (at0 l (k + 1))) : ∀ i, i < m → Adj (bub l k) i := by
  induction k generalizing l with
  | zero => exact fun i hi => h i hi (by omega)
  | succ k ih =>
    by_cases c : 0 < cls (at0 l (k + 1)) ∧ cls (at0 l (k + 1)) < cls (at0 l k)
    · rw [bub_go l k c]
      have hl : k + 1 < l.length := by omega
      refine ih (swp l k) (by rw [swp_length]; exact hm) (by omega) ?_ ?_
      · intro i hi hne
        by_cases e1 : i = k
        · subst e1
          intro hp
          rw [swp_lo _ _ hl, swp_hi _ _ hl]; omega
        · by_cases e2 : i = k + 1
          · subst e2
            intro hp
            rw [swp_ne _ _ _ (by omega) (by omega)] at hp
            rw [swp_hi _ _ hl, swp_ne _ _ _ (by omega) (by omega)]
            exact hgap k rfl (by omega) hp
          · intro hp
            rw [swp_ne _ _ _ (by omega) (by omega)] at hp
            rw [swp_ne _ _ _ e1 e2, swp_ne _ _ _ (by omega) (by omega)]
            exact h i hi (by omega) hp
      · intro p hp hkm hpos
        subst hp
        rw [swp_hi _ _ hl] at hpos
        rw [swp_hi _ _ hl, swp_ne _ _ _ (by omega) (by omega)]
        exact h p (by omega) (by omega) hpos
    · rw [bub_stop l k c]
      intro i hi
      by_cases e : i = k
      · subst e
        intro hp
        by_cases q : cls (at0 l (i + 1)) < cls (at0 l i)
        · exact absurd ⟨hp, q⟩ c
        · omega
      · exact h i hi (by omega)

theorem srt_adj (zs : List Int) (m : Nat) (hm : m ≤ zs.length) : ∀ i, i + 1 < m → Adj (srt zs m) i := by
  induction m with
  | zero => intro i hi; omega
  | succ m ih =>
    intro i hi
    have h := ih (by omega)
    refine bub_adj m m (srt zs m) (by rw [srt_length]; omega) (Nat.le_refl _) (fun j hj hne => h j (by omega)) (fun p _ hlt => by omega) i (by omega)

theorem sortM_adj (zs : List Int) : ∀ i, i + 1 < zs.length → Adj (sortM zs) i := srt_adj zs zs.length (Nat.le_refl _)
end Go.Proofs.YtinjldagfhbioaaGreatDoor
