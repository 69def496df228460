/- Rows cut into pages, without memory: by as many as fit, and row by row. -/
import Derived.Test.YtbgomhgohphglaaDoorPPage6
namespace Go.Proofs.YtbgomhgohphglaaDoor

/-- How long the page of rows is. -/
def lnP (l : List Rw) : Nat := (pageI l).length

theorem lnP_is (l : List Rw) : lnP l = 3 + (rowsI ⟨#[]⟩ l).length := by
  unfold lnP pageI
  rw [List.length_append]
  rfl

theorem lnP_snoc (l : List Rw) (x : Rw) : lnP (l ++ [x]) = lnP l + (rowI (lastK ⟨#[]⟩ l) x).length := by
  rw [lnP_is, lnP_is, rowsI_snoc, List.length_append]
  omega

theorem lnP_nil : lnP [] = 3 := rfl

theorem shB_nil (k : ByteArray) : shB ⟨#[]⟩ k = 0 := by
  have := shB_le1 ⟨#[]⟩ k
  have h : (⟨#[]⟩ : ByteArray).size = 0 := rfl
  omega

theorem lastK_size : ∀ (p : ByteArray) (q : List Rw), (lastK p q).size ≤ p.size + (rowsI p q).length
  | p, [] => Nat.le_add_right _ _
  | p, x :: q => by
    have h := lastK_size x.key q
    have h1 := rowI_len p x
    have h2 := shB_le1 p x.key
    show (lastK x.key q).size ≤ p.size + (rowI p x ++ rowsI x.key q).length
    rw [List.length_append]
    omega

/-- A row that is put behind others in a page has no longer page alone. -/
theorem lnP_alone (q : List Rw) (x : Rw) : lnP [x] ≤ lnP (q ++ [x]) := by
  have h1 := rowI_len (⟨#[]⟩ : ByteArray) x
  have h2 := rowI_len (lastK ⟨#[]⟩ q) x
  have h3 := lastK_size ⟨#[]⟩ q
  have h4 := shB_le1 (lastK ⟨#[]⟩ q) x.key
  have h5 := lnP_snoc [] x
  have h6 : lastK ⟨#[]⟩ [] = (⟨#[]⟩ : ByteArray) := rfl
  have h7 : (⟨#[]⟩ : ByteArray).size = 0 := rfl
  have h8 := lnP_snoc q x
  have h9 := lnP_is q
  rw [List.nil_append, lnP_nil, h6] at h5
  rw [shB_nil] at h1
  omega

theorem lnP_take_le1 {l : List Rw} (h : RwB l) : lnP l ≤ 196098 := by
  rw [lnP_is]
  have h1 := rowsI_len_le ⟨#[]⟩ l h.2
  have h2 := h.1
  omega

/-- How many of the first rows have a page of at most lim bytes. -/
def wn (l : List Rw) (lim : Nat) : Nat := ((List.range l.length).find? fun k => decide (lim < lnP (l.take (k + 1)))).getD l.length

theorem wn_at {l : List Rw} {lim k : Nat} (hk : k < l.length) (h : ∀ j, j < k → lnP (l.take (j + 1)) ≤ lim) (h1 : lim < lnP (l.take (k + 1))) : wn l lim = k := by
  unfold wn
  have : (List.range l.length).find? (fun k => decide (lim < lnP (l.take (k + 1)))) = some k := by
    rw [List.find?_eq_some_iff_getElem]
    refine ⟨by simpa using h1, k, by simpa using hk, by simp, fun j hj => ?_⟩
    have := h j hj
    simp
    omega
  rw [this]
  rfl

theorem wn_all {l : List Rw} {lim : Nat} (h : ∀ j, j < l.length → lnP (l.take (j + 1)) ≤ lim) : wn l lim = l.length := by
  unfold wn
  have : (List.range l.length).find? (fun k => decide (lim < lnP (l.take (k + 1)))) = none := by
    rw [List.find?_eq_none]
    intro j hj
    have := h j (by simpa using hj)
    simp
    omega
  rw [this]
  rfl

theorem wn_is (l : List Rw) (lim : Nat) : wn l lim ≤ l.length ∧ (∀ j, j < wn l lim → lnP (l.take (j + 1)) ≤ lim) ∧ (wn l lim < l.length → lim < lnP (l.take (wn l lim + 1))) := by
  cases h : (List.range l.length).find? (fun k => decide (lim < lnP (l.take (k + 1)))) with
  | none =>
    have hw : wn l lim = l.length := by unfold wn; rw [h]; rfl
    rw [hw]
    refine ⟨Nat.le_refl _, fun j hj => ?_, fun c => absurd c (Nat.lt_irrefl _)⟩
    rw [List.find?_eq_none] at h
    have := h j (by simpa using hj)
    simp at this
    exact this
  | some k =>
    have hw : wn l lim = k := by unfold wn; rw [h]; rfl
    rw [hw]
    rw [List.find?_eq_some_iff_getElem] at h
    obtain ⟨h1, i, hi, hik, h2⟩ := h
    simp at hik hi h1
    subst hik
    refine ⟨by omega, fun j hj => ?_, fun _ => h1⟩
    have := h2 j hj
    simp at this
    exact this

/-- The program's cutting. -/
def cutF (acc : List (List Rw)) (l : List Rw) : Option (List (List Rw)) :=
  if _h : l.length = 0 then some acc
  else if _h1 : wn l 300 = 0 ∨ acc.length = 40 then none
  else cutF (acc ++ [l.take (wn l 300)]) (l.drop (wn l 300))
termination_by l.length
decreasing_by
  rw [List.length_drop]
  omega

theorem cutF_end {acc : List (List Rw)} {l : List Rw} (h : l.length = 0) : cutF acc l = some acc := by rw [cutF, dif_pos h]
theorem cutF_no {acc : List (List Rw)} {l : List Rw} (h : l.length ≠ 0) (h1 : wn l 300 = 0 ∨ acc.length = 40) : cutF acc l = none := by rw [cutF, dif_neg h, dif_pos h1]
theorem cutF_yes {acc : List (List Rw)} {l : List Rw} (h : l.length ≠ 0) (h1 : ¬ wn l 300 = 0) (h2 : ¬ acc.length = 40) : cutF acc l = cutF (acc ++ [l.take (wn l 300)]) (l.drop (wn l 300)) := by
  rw [cutF, dif_neg h, dif_neg (fun c => c.elim h1 h2)]

/-- The specification's cutting, row by row. -/
def scF : List (List Rw) → List Rw → Option (List (List Rw))
  | out, [] => some out
  | out, x :: l =>
    if 300 < lnP [x] then none
    else match out.getLast? with
      | none => scF (out ++ [[x]]) l
      | some p => if lnP (p ++ [x]) ≤ 300 then scF (out.dropLast ++ [p ++ [x]]) l else scF (out ++ [[x]]) l

theorem scF_long {out : List (List Rw)} {l : List Rw} {x : Rw} (h : 300 < lnP [x]) : scF out (x :: l) = none := by rw [scF, if_pos h]
theorem scF_first {l : List Rw} {x : Rw} (h : ¬ 300 < lnP [x]) : scF [] (x :: l) = scF [[x]] l := by rw [scF, if_neg h]; rfl
theorem scF_more {out : List (List Rw)} {p l : List Rw} {x : Rw} (h : ¬ 300 < lnP [x]) (h1 : lnP (p ++ [x]) ≤ 300) : scF (out ++ [p]) (x :: l) = scF (out ++ [p ++ [x]]) l := by
  rw [scF, if_neg h]
  simp [h1]
theorem scF_new {out : List (List Rw)} {p l : List Rw} {x : Rw} (h : ¬ 300 < lnP [x]) (h1 : ¬ lnP (p ++ [x]) ≤ 300) : scF (out ++ [p]) (x :: l) = scF (out ++ [p] ++ [[x]]) l := by
  rw [scF, if_neg h]
  simp [h1]

theorem scF_len (l : List Rw) : ∀ (out r : List (List Rw)), scF out l = some r → out.length ≤ r.length := by
  induction l with
  | nil =>
    intro out r h
    have h' : some out = some r := h
    cases h'
    exact Nat.le_refl _
  | cons x l ih =>
    intro out r h
    by_cases h0 : 300 < lnP [x]
    · rw [scF_long h0] at h; cases h
    · cases hg : out.getLast? with
      | none =>
        obtain rfl : out = [] := List.getLast?_eq_none_iff.1 hg
        exact Nat.zero_le _
      | some p =>
        obtain ⟨o, rfl⟩ : ∃ o, out = o ++ [p] := List.getLast?_eq_some_iff.1 hg
        by_cases h1 : lnP (p ++ [x]) ≤ 300
        · rw [scF_more h0 h1] at h
          have := ih _ _ h
          simp at this ⊢
          omega
        · rw [scF_new h0 h1] at h
          have := ih _ _ h
          simp at this ⊢
          omega

/-- Where there are at most 40. -/
def cap40 : Option (List (List Rw)) → Option (List (List Rw))
  | none => none
  | some r => if r.length ≤ 40 then some r else none

/-- Rows that go behind a page. -/
theorem scF_grow (out : List (List Rw)) : ∀ (m : Nat) (p l : List Rw), m ≤ l.length → (∀ j, j < m → lnP (p ++ l.take (j + 1)) ≤ 300) → scF (out ++ [p]) l = scF (out ++ [p ++ l.take m]) (l.drop m)
  | 0, p, l, _, _ => by simp
  | m + 1, p, [], h, _ => by simp at h
  | m + 1, p, x :: l, h, hj => by
    have h1 : lnP (p ++ [x]) ≤ 300 := by simpa using hj 0 (by omega)
    have h0 : ¬ 300 < lnP [x] := by have := lnP_alone p x; omega
    rw [scF_more h0 h1, scF_grow out m (p ++ [x]) l (by simpa using h) (fun j hjm => ?_)]
    · simp
    · have := hj (j + 1) (by omega)
      simpa using this

theorem cut_same : ∀ (n : Nat) (l : List Rw) (out : List (List Rw)), l.length ≤ n → out.length ≤ 40 → (∀ p x, out.getLast? = some p → l.head? = some x → ¬ lnP (p ++ [x]) ≤ 300) → cutF out l = cap40 (scF out l)
  | 0, l, out, hn, ho, _ => by
    obtain rfl : l = [] := List.eq_nil_of_length_eq_zero (by omega)
    rw [cutF_end rfl]
    show some out = if out.length ≤ 40 then some out else none
    rw [if_pos ho]
  | n + 1, l, out, hn, ho, hi => by
    cases l with
    | nil =>
      rw [cutF_end rfl]
      show some out = if out.length ≤ 40 then some out else none
      rw [if_pos ho]
    | cons x l =>
      obtain ⟨w1, w2, w3⟩ := wn_is (x :: l) 300
      by_cases hw : wn (x :: l) 300 = 0
      · rw [cutF_no (by simp) (.inl hw)]
        have := w3 (by rw [hw]; simp)
        rw [hw] at this
        rw [scF_long (by simpa using this)]
        rfl
      · obtain ⟨m, hm⟩ : ∃ m, wn (x :: l) 300 = m + 1 := ⟨wn (x :: l) 300 - 1, by omega⟩
        rw [hm] at w1 w2 w3
        have hx : ¬ 300 < lnP [x] := by have := w2 0 (by omega); simp at this; omega
        have hstep : scF out (x :: l) = scF (out ++ [(x :: l).take (m + 1)]) ((x :: l).drop (m + 1)) := by
          have e1 : scF out (x :: l) = scF (out ++ [[x]]) l := by
            cases hg : out.getLast? with
            | none =>
              obtain rfl : out = [] := List.getLast?_eq_none_iff.1 hg
              exact scF_first hx
            | some p =>
              obtain ⟨out', rfl⟩ : ∃ o, out = o ++ [p] := List.getLast?_eq_some_iff.1 hg
              exact scF_new hx (hi p x hg rfl)
          rw [e1, scF_grow out m [x] l (by simpa using w1) (fun j hj => ?_)]
          · simp
          · have := w2 (j + 1) (by omega)
            simpa using this
        by_cases h40 : out.length = 40
        · rw [cutF_no (by simp) (.inr h40), hstep]
          cases hs : scF (out ++ [(x :: l).take (m + 1)]) ((x :: l).drop (m + 1)) with
          | none => rfl
          | some r =>
            have := scF_len _ _ _ hs
            rw [List.length_append] at this
            simp at this
            have h41 : ¬ r.length ≤ 40 := by omega
            show none = if r.length ≤ 40 then some r else none
            rw [if_neg h41]
        · rw [cutF_yes (by simp) hw h40, hm, hstep]
          refine cut_same n _ _ (by rw [List.length_drop]; simp at hn ⊢; omega) (by simp; omega) (fun p y hp hy => ?_)
          simp at hp
          subst hp
          rw [List.head?_drop] at hy
          have hlt : m + 1 < (x :: l).length := (List.getElem?_eq_some_iff.1 hy).1
          have := w3 hlt
          rw [List.take_add_one, hy] at this
          simp at this ⊢
          omega

/-- What CutRows answers. -/
def cutA (l : List Rw) : Option (List (List Rw)) := if goodR l then cutF [] l else none

theorem cutF_is (l : List Rw) : cutF [] l = cap40 (scF [] l) :=
  cut_same l.length l [] (Nat.le_refl _) (by simp) (fun p x hp => by simp at hp)

/-- A stretch of good rows is good. -/
theorem goodR_drop {l : List Rw} (h : goodR l = true) (n : Nat) : goodR (l.drop n) = true := by
  refine goodR_all (by have := goodR_len h; rw [List.length_drop]; omega) (fun i hi => ?_)
  rw [List.length_drop] at hi
  have h1 := goodR_at h (show n + i < l.length by omega)
  have e : ∀ j, rwAt (l.drop n) j = rwAt l (n + j) := fun j => by unfold rwAt; rw [List.getElem?_drop]
  unfold okAt at h1 ⊢
  rw [e]
  rw [Bool.and_eq_true] at h1 ⊢
  refine ⟨h1.1, ?_⟩
  by_cases c : i = 0
  · simp [c]
  · have h2 := h1.2
    rw [e]
    have c1 : (n + i == 0) = false := by simp; omega
    have c2 : (i == 0) = false := by simp [c]
    rw [c1, Bool.false_or] at h2
    rw [c2, Bool.false_or, show n + (i - 1) = n + i - 1 by omega]
    exact h2

theorem goodR_take {l : List Rw} (h : goodR l = true) (n : Nat) : goodR (l.take n) = true := by
  refine goodR_all (by have := goodR_len h; rw [List.length_take]; omega) (fun i hi => ?_)
  rw [List.length_take] at hi
  have h1 := goodR_at h (show i < l.length by omega)
  have e : ∀ j, j < n → rwAt (l.take n) j = rwAt l j := fun j hj => by unfold rwAt; rw [List.getElem?_take_of_lt hj]
  unfold okAt at h1 ⊢
  rw [e i (by omega), e (i - 1) (by omega)]
  exact h1

theorem okPB_take {l : List Rw} (hg : goodR l = true) (_h0 : l.length ≠ 0) (hw : ¬ wn l 300 = 0) : okPB (l.take (wn l 300)) = true := by
  obtain ⟨w1, w2, w3⟩ := wn_is l 300
  unfold okPB
  have h1 := goodR_take hg (wn l 300)
  have h2 : (pageI (l.take (wn l 300))).length ≤ 300 := by
    have := w2 (wn l 300 - 1) (by omega)
    rw [show wn l 300 - 1 + 1 = wn l 300 by omega] at this
    exact this
  have h3 : ((l.take (wn l 300)).length == 0) = false := by
    have h4 : (l.take (wn l 300)).length = wn l 300 := by rw [List.length_take]; omega
    rw [h4]
    simp [hw]
  rw [h1, h3, decide_eq_true h2]
  rfl

theorem cutF_ok : ∀ (n : Nat) (l : List Rw) (acc r : List (List Rw)), l.length ≤ n → goodR l = true → acc.length ≤ 40 → (∀ p ∈ acc, okPB p = true) → cutF acc l = some r → r.length ≤ 40 ∧ ∀ p ∈ r, okPB p = true
  | 0, l, acc, r, hn, _, ha, hp, h => by
    rw [cutF_end (by omega)] at h
    cases h
    exact ⟨ha, hp⟩
  | n + 1, l, acc, r, hn, hg, ha, hp, h => by
    by_cases h0 : l.length = 0
    · rw [cutF_end h0] at h
      cases h
      exact ⟨ha, hp⟩
    · by_cases h1 : wn l 300 = 0
      · rw [cutF_no h0 (.inl h1)] at h; cases h
      · by_cases h2 : acc.length = 40
        · rw [cutF_no h0 (.inr h2)] at h; cases h
        · rw [cutF_yes h0 h1 h2] at h
          refine cutF_ok n _ _ r (by rw [List.length_drop]; omega) (goodR_drop hg _) (by simp; omega) (fun p hpm => ?_) h
          rcases List.mem_append.1 hpm with hpm | hpm
          · exact hp p hpm
          · simp at hpm
            rw [hpm]
            exact okPB_take hg h0 h1

theorem cutA_ok {l : List Rw} {r : List (List Rw)} (h : cutA l = some r) : r.length ≤ 40 ∧ ∀ p ∈ r, okPB p = true := by
  unfold cutA at h
  split at h
  · rename_i hg
    exact cutF_ok l.length l [] r (Nat.le_refl _) hg (by simp) (fun p hp => by simp at hp) h
  · cases h
end Go.Proofs.YtbgomhgohphglaaDoor
