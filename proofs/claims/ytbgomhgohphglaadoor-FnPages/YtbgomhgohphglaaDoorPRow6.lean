/- Where a key stands in good rows, without memory. -/
import Derived.Test.YtbgomhgohphglaaDoorPFor6
import Derived.Test.YtbgomhgohphglaaDoorPPlace6
import Derived.Test.YtbgomhgohphglaaDoorPSort4
namespace Go.Proofs.YtbgomhgohphglaaDoor

theorem cmpB_neg : ∀ a b : List UInt8, Lib.compareBytes a b < 0 ↔ Op.bytesLess a b = true
  | [], [] => by simp [Lib.compareBytes, Op.bytesLess]
  | [], _ :: _ => by simp [Lib.compareBytes, Op.bytesLess]
  | _ :: _, [] => by simp [Lib.compareBytes, Op.bytesLess]
  | x :: a, y :: b => by
    have ih := cmpB_neg a b
    unfold Lib.compareBytes Op.bytesLess
    by_cases h : x < y
    · simp [h]
    · by_cases h2 : y < x
      · have h3 : x ≠ y := fun e => by subst e; exact h h2
        simp [h, h2, h3]
      · have h3 : x = y := UInt8.le_antisymm (UInt8.not_lt.1 h2) (UInt8.not_lt.1 h)
        subst h3
        simp only [h, if_false, ih, decide_false, beq_self_eq_true, Bool.true_and, Bool.false_or]

theorem cmpB_zero : ∀ a b : List UInt8, Lib.compareBytes a b = 0 ↔ a = b
  | [], [] => by simp [Lib.compareBytes]
  | [], _ :: _ => by simp [Lib.compareBytes]
  | _ :: _, [] => by simp [Lib.compareBytes]
  | x :: a, y :: b => by
    have ih := cmpB_zero a b
    unfold Lib.compareBytes
    by_cases h : x < y
    · have h3 : x ≠ y := fun e => by subst e; exact absurd h (UInt8.lt_irrefl _)
      simp [h, h3]
    · by_cases h2 : y < x
      · have h3 : x ≠ y := fun e => by subst e; exact absurd h2 (UInt8.lt_irrefl _)
        simp [h, h2, h3]
      · have h3 : x = y := UInt8.le_antisymm (UInt8.not_lt.1 h2) (UInt8.not_lt.1 h)
        subst h3
        simp only [h, if_false, ih, List.cons.injEq, true_and]

theorem cmpK_neg (a b : ByteArray) : cmpK a b < 0 ↔ ltK a b = true := by
  unfold cmpK ltK
  rw [ByteArray.toList_eq, ByteArray.toList_eq]
  exact cmpB_neg _ _

theorem cmpK_zero (a b : ByteArray) : cmpK a b = 0 ↔ a = b := by
  unfold cmpK
  rw [cmpB_zero]
  constructor
  · intro h
    exact ByteArray.ext (Array.ext' h)
  · rintro rfl; rfl

theorem ltK_trans {a b c : ByteArray} (h1 : ltK a b = true) (h2 : ltK b c = true) : ltK a c = true := less_trans _ _ _ h1 h2
theorem ltK_irr (a : ByteArray) : ltK a a = false := less_irrefl _
theorem ltK_tot {a b : ByteArray} (h1 : ltK a b = false) (h2 : a ≠ b) : ltK b a = true := by
  rcases less_total a.toList b.toList with h | h | h
  · unfold ltK at h1; rw [h1] at h; cases h
  · rw [ByteArray.toList_eq, ByteArray.toList_eq, beq_iff_eq] at h
    exact absurd (ByteArray.ext (Array.ext' h)) h2
  · exact h

/-- The keys rise. -/
def Rise (l : List Rw) : Prop := ∀ i j, i < j → j < l.length → ltK (rwAt l i).key (rwAt l j).key = true

theorem goodR_rise {l : List Rw} (h : goodR l = true) : Rise l := by
  intro i j hij hj
  obtain ⟨d, rfl⟩ : ∃ d, j = i + 1 + d := ⟨j - i - 1, by omega⟩
  induction d with
  | zero =>
    have := goodR_at h hj
    unfold okAt at this
    simpa using (Bool.and_eq_true _ _ ▸ this).2
  | succ d ih =>
    have h1 := ih (by omega) (by omega)
    have h2 := goodR_at h hj
    unfold okAt at h2
    have h3 : ltK (rwAt l (i + 1 + d)).key (rwAt l (i + 1 + (d + 1))).key = true := by
      have := (Bool.and_eq_true _ _ ▸ h2).2
      simpa using this
    exact ltK_trans h1 h3

theorem rwAt_of {l : List Rw} {i : Nat} {x : Rw} (h : l[i]? = some x) : rwAt l i = x := by unfold rwAt; rw [h]; rfl
theorem rwAt_lt {l : List Rw} {i : Nat} (h : i < l.length) : l[i]? = some (rwAt l i) := by unfold rwAt; rw [List.getElem?_eq_getElem h]; rfl

/-- The search by halves comes to the place ahead of which all are less. -/
theorem bsF_is {l : List Rw} {key : ByteArray} (hr : Rise l) : ∀ (n i j : Nat), j - i ≤ n → i ≤ j → j ≤ l.length → (∀ p, p < i → ltK (rwAt l p).key key = true) → (∀ p, j ≤ p → p < l.length → ltK (rwAt l p).key key = false) →
    bsF l key i j ≤ l.length ∧ (∀ p, p < bsF l key i j → ltK (rwAt l p).key key = true) ∧ (∀ p, bsF l key i j ≤ p → p < l.length → ltK (rwAt l p).key key = false)
  | 0, i, j, hn, h1, h2, h3, h4 => by
    rw [bsF_end (by omega)]
    obtain rfl : i = j := by omega
    exact ⟨h2, h3, h4⟩
  | n + 1, i, j, hn, h1, h2, h3, h4 => by
    by_cases c : i < j
    · by_cases d : cmpK (rwAt l ((i + j) / 2)).key key < 0
      · rw [bsF_up c d]
        refine bsF_is hr n _ j (by omega) (by omega) h2 (fun p hp => ?_) h4
        by_cases e : p = (i + j) / 2
        · rw [e]; exact (cmpK_neg _ _).1 d
        · exact ltK_trans (hr p ((i + j) / 2) (by omega) (by omega)) ((cmpK_neg _ _).1 d)
      · rw [bsF_down c d]
        refine bsF_is hr n i _ (by omega) (by omega) (by omega) h3 (fun p hp hl => ?_)
        have d2 : ltK (rwAt l ((i + j) / 2)).key key = false := by
          cases e : ltK (rwAt l ((i + j) / 2)).key key
          · rfl
          · exact absurd ((cmpK_neg _ _).2 e) d
        by_cases e : p = (i + j) / 2
        · rw [e]; exact d2
        · cases f : ltK (rwAt l p).key key
          · rfl
          · rw [ltK_trans (hr ((i + j) / 2) p (by omega) hl) f] at d2; cases d2
    · rw [bsF_end c]
      obtain rfl : i = j := by omega
      exact ⟨h2, h3, h4⟩

theorem placeF_is {l : List Rw} (key : ByteArray) (hr : Rise l) : placeF l key ≤ l.length ∧ (∀ p, p < placeF l key → ltK (rwAt l p).key key = true) ∧ (∀ p, placeF l key ≤ p → p < l.length → ltK (rwAt l p).key key = false) :=
  bsF_is hr l.length 0 l.length (by omega) (by omega) (Nat.le_refl _) (fun p hp => by omega) (fun p h1 h2 => by omega)

/-- The row with a key, the row of nothing where there is none. -/
def rowIn (l : List Rw) (key : ByteArray) : Rw := (l.find? fun x => decide (x.key = key)).getD rwZ

theorem rowIn_there {l : List Rw} {key : ByteArray} (hr : Rise l) (h : thereF l key = true) : rowIn l key = rwAt l (placeF l key) ∧ placeF l key < l.length := by
  obtain ⟨h1, h2, h3⟩ := placeF_is key hr
  unfold thereF at h
  rw [Bool.and_eq_true, decide_eq_true_eq, decide_eq_true_eq, cmpK_zero] at h
  refine ⟨?_, h.1⟩
  unfold rowIn
  have : l.find? (fun x => decide (x.key = key)) = some (rwAt l (placeF l key)) := by
    rw [List.find?_eq_some_iff_getElem]
    refine ⟨by simpa using h.2, placeF l key, h.1, ?_, fun j hj => ?_⟩
    · have := rwAt_lt h.1
      rw [List.getElem?_eq_getElem h.1] at this
      exact Option.some.inj this
    · have hjl : j < l.length := by omega
      have e := rwAt_lt hjl
      rw [List.getElem?_eq_getElem hjl] at e
      have e2 := Option.some.inj e
      have h4 := h2 j hj
      rw [e2]
      have : ¬ (rwAt l j).key = key := fun c => by rw [c, ltK_irr] at h4; cases h4
      simp [this]
  rw [this]
  rfl

theorem rowIn_not {l : List Rw} {key : ByteArray} (hr : Rise l) (h : thereF l key = false) : ∀ x ∈ l, x.key ≠ key := by
  intro x hx c
  obtain ⟨i, hi⟩ := List.getElem?_of_mem hx
  have hil := (List.getElem?_eq_some_iff.1 hi).1
  obtain ⟨h1, h2, h3⟩ := placeF_is key hr
  have hxi := rwAt_of hi
  have hp : placeF l key ≤ i := by
    apply Classical.byContradiction
    intro hn
    have := h2 i (by omega)
    rw [hxi, c, ltK_irr] at this
    cases this
  have hpl : placeF l key < l.length := by omega
  unfold thereF at h
  rw [decide_eq_true hpl, Bool.true_and, decide_eq_false_iff_not, cmpK_zero] at h
  have h4 := h3 _ (Nat.le_refl _) hpl
  have h5 := ltK_tot h4 h
  by_cases e : placeF l key = i
  · rw [e, hxi, c, ltK_irr] at h5; cases h5
  · have h6 := hr (placeF l key) i (by omega) hil
    rw [hxi, c] at h6
    have h7 := ltK_trans h5 h6
    rw [ltK_irr] at h7; cases h7

theorem rowIn_none {l : List Rw} {key : ByteArray} (h : ∀ x ∈ l, x.key ≠ key) : rowIn l key = rwZ := by
  unfold rowIn
  have : l.find? (fun x => decide (x.key = key)) = none := by
    rw [List.find?_eq_none]
    intro x hx
    simpa using h x hx
  rw [this]
  rfl

theorem rowIn_first {l : List Rw} {key : ByteArray} {k : Nat} {x : Rw} (hx : l[k]? = some x) (hk : x.key = key) (h : ∀ y ∈ l.take k, y.key ≠ key) : rowIn l key = x := by
  unfold rowIn
  obtain ⟨hkl, hx2⟩ := List.getElem?_eq_some_iff.1 hx
  have : l.find? (fun x => decide (x.key = key)) = some x := by
    rw [List.find?_eq_some_iff_getElem]
    refine ⟨by simpa using hk, k, hkl, hx2, fun j hj => ?_⟩
    have hm : l[j] ∈ l.take k := by
      refine List.mem_of_getElem? (i := j) ?_
      rw [List.getElem?_take_of_lt hj, List.getElem?_eq_getElem (by omega)]
    simpa using h _ hm
  rw [this]
  rfl

/-- Rows of a page that is read are good. -/
theorem readP_good {s : ByteArray} (h : codeP s = 0) : goodR (readP s) = true := by
  unfold codeP at h
  unfold readP
  cases h1 : lenOk s
  · rw [h1] at h; simp at h
  cases h2 : markOk s
  · rw [h1, h2] at h; simp at h
  rw [h1, h2] at h
  simp only [if_true, Bool.and_self] at h ⊢
  cases h3 : readL s with
  | none => rw [h3] at h; simp at h
  | some l =>
    unfold readL at h3
    split at h3
    · cases h3
    · rename_i l' _
      split at h3
      · rename_i hp
        obtain rfl := Option.some.inj h3
        unfold isPage at hp
        rw [Bool.and_eq_true, Bool.and_eq_true] at hp
        exact hp.1.2
      · cases h3

theorem bkF_good : ∀ (ss : List ByteArray) (acc gs : List (List Rw)), bkF acc ss = some gs → (∀ l ∈ acc, goodR l = true ∧ 0 < l.length) → ∀ l ∈ gs, goodR l = true ∧ 0 < l.length
  | [], acc, gs, h, ha => by simp [bkF] at h; subst h; exact ha
  | s :: ss, acc, gs, h, ha => by
    unfold bkF at h
    split at h
    · rename_i ho
      refine bkF_good ss _ gs h fun l hl => ?_
      rcases List.mem_append.1 hl with hl | hl
      · exact ha l hl
      · simp at hl
        subst hl
        unfold okNext at ho
        rw [Bool.and_eq_true, decide_eq_true_eq] at ho
        exact ⟨readP_good ho.1, readP_some ho.1⟩
    · cases h

theorem bookF_good {ss : List ByteArray} {gs : List (List Rw)} (h : bookF ss = some gs) : ∀ l ∈ gs, goodR l = true ∧ 0 < l.length := by
  unfold bookF at h
  split at h
  · exact bkF_good ss [] gs h (fun l hl => by simp at hl)
  · cases h

theorem pfF_le (gs : List (List Rw)) (key : ByteArray) : ∀ (n lo hi k : Nat), hi - lo ≤ n → lo ≤ hi → (pfF gs key lo hi k).1 ≤ hi ∧ (pfF gs key lo hi k).2 ≤ k + (hi - lo)
  | 0, lo, hi, k, hn, h1 => by rw [pfF_end (by omega)]; exact ⟨Nat.le_refl _, by show k ≤ _; omega⟩
  | n + 1, lo, hi, k, hn, h1 => by
    by_cases c : lo < hi
    · rw [pfF, if_pos c]
      split
      · have := pfF_le gs key n ((lo + hi) / 2 + 1) hi (k + 1) (by omega) (by omega); omega
      · have := pfF_le gs key n lo ((lo + hi) / 2) (k + 1) (by omega) (by omega); omega
    · rw [pfF_end c]; exact ⟨Nat.le_refl _, by show k ≤ _; omega⟩

theorem pageF_le (gs : List (List Rw)) (key : ByteArray) : (pageF gs key).1 ≤ gs.length ∧ (pageF gs key).2 ≤ gs.length := by
  have := pfF_le gs key gs.length 0 gs.length 0 (by omega) (by omega)
  unfold pageF
  omega

/-- What FindRow answers: the row, and how many pages were looked at. -/
def findA (ss : List ByteArray) (key : ByteArray) : Rw × Nat := match bookF ss with
  | none => (rwZ, 0)
  | some gs => match gs[(pageF gs key).1]? with
    | none => (rwZ, (pageF gs key).2)
    | some l => (rowIn l key, (pageF gs key).2 + 1)

theorem findA_bad {ss : List ByteArray} {key : ByteArray} (h : bookF ss = none) : findA ss key = (rwZ, 0) := by unfold findA; rw [h]
theorem findA_end {ss : List ByteArray} {key : ByteArray} {gs : List (List Rw)} (h : bookF ss = some gs) (hp : (pageF gs key).1 = gs.length) : findA ss key = (rwZ, (pageF gs key).2) := by
  unfold findA
  rw [h]
  show (match gs[(pageF gs key).1]? with | none => (rwZ, (pageF gs key).2) | some l => (rowIn l key, (pageF gs key).2 + 1)) = _
  rw [hp, List.getElem?_eq_none (Nat.le_refl _)]
theorem findA_page {ss : List ByteArray} {key : ByteArray} {gs : List (List Rw)} {l : List Rw} (h : bookF ss = some gs) (hp : gs[(pageF gs key).1]? = some l) : findA ss key = (rowIn l key, (pageF gs key).2 + 1) := by
  unfold findA
  rw [h]
  show (match gs[(pageF gs key).1]? with | none => (rwZ, (pageF gs key).2) | some l => (rowIn l key, (pageF gs key).2 + 1)) = _
  rw [hp]
end Go.Proofs.YtbgomhgohphglaaDoor
