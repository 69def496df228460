/- The table of chapter 2, taking apart in steps, and putting together, without memory. -/
import Derived.Test.YtinjldagfhbioaaGreatDoorNorm
import Derived.Test.YtinjldagfhbioaaGreatDoorGoodP
namespace Go.Proofs.YtinjldagfhbioaaGreatDoor

def first5 : List (List Int) := [[255, 121, 776], [7844, 194, 769], [7845, 226, 769], [7779, 115, 803], [7785, 7779, 775]]
def rows8 : List (List Int) := [[192, 65, 768, 769, 770, 771, 776, 778], [199, 67, 807], [200, 69, 768, 769, 770, 776], [204, 73, 768, 769, 770, 776], [209, 78, 771], [210, 79, 768, 769, 770, 771, 776], [217, 85, 768, 769, 770, 776], [221, 89, 769]]

def expand (r : List Int) : List (List Int) := match r with
  | r0 :: r1 :: ms => (ms.zipIdx).flatMap fun p => [[r0 + (p.2 : Int), r1, p.1], [r0 + (p.2 : Int) + 32, r1 + 32, p.1]]
  | _ => []

/-- The rows of the table, in its order. -/
def tab : List (List Int) := first5 ++ rows8.flatMap expand

theorem tab_len : tab.length = 57 := by decide
theorem tab_three : ∀ t ∈ tab, t.length = 3 := by decide

def apart (r : Int) : List Int :=
  if r = 8491 then [197]
  else if 44032 ≤ r ∧ r ≤ 55203 then
    [4352 + (r - 44032) / 588, 4449 + (r - 44032) % 588 / 28] ++ (if 0 < (r - 44032) % 28 then [4519 + (r - 44032) % 28] else [])
  else match tab.find? (fun t => at0 t 0 == r) with
    | some t => [at0 t 1, at0 t 2]
    | none => [r]

def tog (a b : Int) : Option Int :=
  if 4352 ≤ a ∧ a ≤ 4370 ∧ 4449 ≤ b ∧ b ≤ 4469 then some (44032 + (a - 4352) * 588 + (b - 4449) * 28)
  else if (44032 ≤ a ∧ a ≤ 55203) ∧ (a - 44032) % 28 = 0 ∧ 4520 ≤ b ∧ b ≤ 4546 then some (a + b - 4519)
  else (tab.find? (fun t => at0 t 1 == a && at0 t 2 == b)).map (fun t => at0 t 0)

/-- The two parts of the table the other way round, as the program looks them through. -/
def tabI : List (List Int) := rows8.flatMap expand ++ first5

theorem find_turned {α : Type} (p : α → Bool) (E F : List α) (h : ∀ e ∈ E, ∀ f ∈ F, p e = true → p f = true → False) : (E ++ F).find? p = (F ++ E).find? p := by
  rw [List.find?_append, List.find?_append]
  cases he : E.find? p with
  | none => cases F.find? p <;> rfl
  | some e =>
    cases hf : F.find? p with
    | none => rfl
    | some f => exact (h e (List.mem_of_find?_eq_some he) f (List.mem_of_find?_eq_some hf) (List.find?_some he) (List.find?_some hf)).elim

theorem keys_apart : ∀ e ∈ rows8.flatMap expand, ∀ f ∈ first5, at0 e 0 ≠ at0 f 0 ∧ ¬ (at0 e 1 = at0 f 1 ∧ at0 e 2 = at0 f 2) := by decide +kernel

theorem tabI_whole (r : Int) : tabI.find? (fun t => at0 t 0 == r) = tab.find? (fun t => at0 t 0 == r) := by
  refine find_turned _ _ _ fun e he f hf h1 h2 => ?_
  simp at h1 h2
  exact (keys_apart e he f hf).1 (by rw [h1, h2])

theorem tabI_parts (a b : Int) : tabI.find? (fun t => at0 t 1 == a && at0 t 2 == b) = tab.find? (fun t => at0 t 1 == a && at0 t 2 == b) := by
  refine find_turned _ _ _ fun e he f hf h1 h2 => ?_
  simp at h1 h2
  exact (keys_apart e he f hf).2 ⟨by rw [h1.1, h2.1], by rw [h1.2, h2.2]⟩

theorem apart_len (r : Int) : 1 ≤ (apart r).length ∧ (apart r).length ≤ 3 := by
  unfold apart
  split
  · simp
  · split
    · split <;> simp
    · split <;> simp

/-- What a rune is taken apart into, n steps deep. -/
def full : Nat → Int → List Int
  | 0, r => [r]
  | n + 1, r => if apart r = [r] then [r] else (apart r).flatMap (full n)

def levB : Nat → Int → Bool
  | 0, r => apart r == [r]
  | n + 1, r => apart r == [r] || (apart r).all (levB n)

theorem levB_zero {r : Int} (h : levB 0 r = true) : apart r = [r] := by simpa [levB] using h
theorem levB_succ {n : Nat} {r : Int} (h : levB (n + 1) r = true) : apart r = [r] ∨ ∀ x ∈ apart r, levB n x = true := by
  simpa [levB] using h

theorem leaf_lev {n : Nat} {r : Int} (h : apart r = [r]) : levB n r = true := by
  cases n <;> simp [levB, h]

theorem full_leaf {n : Nat} {r : Int} (h : apart r = [r]) : full n r = [r] := by
  cases n <;> simp [full, h]

theorem full_go {n : Nat} {r : Int} (h : apart r ≠ [r]) : full (n + 1) r = (apart r).flatMap (full n) := by simp [full, h]

theorem tab_far : ∀ t ∈ tab, at0 t 0 < 4352 ∨ 4600 < at0 t 0 := by decide +kernel

theorem find_none_of {p : List Int → Bool} (h : ∀ t ∈ tab, p t = false) : tab.find? p = none := by
  rw [List.find?_eq_none]; intro t ht; simp [h t ht]

theorem jamo_leaf {x : Int} (h1 : 4352 ≤ x) (h2 : x ≤ 4600) : apart x = [x] := by
  unfold apart
  rw [if_neg (by omega), if_neg (by omega), find_none_of]
  intro t ht
  have := tab_far t ht
  simp; omega

theorem tab_levs : ∀ t ∈ tab, levB 1 (at0 t 1) = true ∧ levB 1 (at0 t 2) = true := by decide +kernel
theorem sign_lev : levB 1 197 = true := by decide +kernel

theorem syl_apart {r : Int} (h1 : 44032 ≤ r) (h2 : r ≤ 55203) : apart r = [4352 + (r - 44032) / 588, 4449 + (r - 44032) % 588 / 28] ++ (if 0 < (r - 44032) % 28 then [4519 + (r - 44032) % 28] else []) := by
  unfold apart; rw [if_neg (by omega), if_pos ⟨h1, h2⟩]

theorem syl_parts {r : Int} (h1 : 44032 ≤ r) (h2 : r ≤ 55203) : ∀ x ∈ apart r, 4352 ≤ x ∧ x ≤ 4600 := by
  rw [syl_apart h1 h2]
  intro x hx
  simp only [List.cons_append, List.nil_append, List.mem_cons] at hx
  rcases hx with rfl | rfl | hx
  · omega
  · omega
  · split at hx
    · simp at hx; subst hx; omega
    · simp at hx

theorem lev2 (r : Int) : levB 2 r = true := by
  by_cases h1 : r = 8491
  · subst h1; decide +kernel
  by_cases h2 : 44032 ≤ r ∧ r ≤ 55203
  · have := syl_parts h2.1 h2.2
    simp only [levB, Bool.or_eq_true, List.all_eq_true]
    right
    intro x hx
    have hl := jamo_leaf (this x hx).1 (this x hx).2
    exact .inl (by simpa using hl)
  · cases hf : tab.find? (fun t => at0 t 0 == r) with
    | none =>
      refine leaf_lev ?_
      unfold apart; rw [if_neg h1, if_neg h2, hf]
    | some t =>
      have ha : apart r = [at0 t 1, at0 t 2] := by unfold apart; rw [if_neg h1, if_neg h2, hf]
      have := tab_levs t (List.mem_of_find?_eq_some hf)
      show (apart r == [r] || (apart r).all (levB 1)) = true
      rw [ha]; simp [this.1, this.2]

/-- A rune taken apart till nothing more can be. -/
def all2 (r : Int) : List Int := full 2 r

theorem flatMap_len {α β : Type} (f : α → List β) (n : Nat) (l : List α) (h : ∀ x, (f x).length ≤ n) : (l.flatMap f).length ≤ l.length * n := by
  induction l with
  | nil => simp
  | cons a l ih => simp only [List.flatMap_cons, List.length_append, List.length_cons]; have := h a; rw [Nat.succ_mul]; omega

theorem full_len (n : Nat) (r : Int) : (full n r).length ≤ 3 ^ n := by
  induction n generalizing r with
  | zero => simp [full]
  | succ n ih =>
    by_cases h : apart r = [r]
    · rw [full_leaf h]; exact Nat.one_le_pow _ _ (by omega)
    · rw [full_go h]
      have := flatMap_len (full n) (3 ^ n) (apart r) ih
      have h3 := (apart_len r).2
      calc _ ≤ (apart r).length * 3 ^ n := this
        _ ≤ 3 * 3 ^ n := Nat.mul_le_mul_right _ h3
        _ = 3 ^ (n + 1) := by rw [Nat.pow_succ]; omega

theorem all2_len (r : Int) : (all2 r).length ≤ 9 := full_len 2 r

theorem parts_good : ∀ t ∈ tab, goodB (at0 t 0) = true ∧ goodB (at0 t 1) = true ∧ goodB (at0 t 2) = true := by decide +kernel

theorem apart_good {r : Int} (h : goodB r = true) : ∀ x ∈ apart r, goodB x = true := by
  by_cases h1 : r = 8491
  · subst h1; decide +kernel
  by_cases h2 : 44032 ≤ r ∧ r ≤ 55203
  · intro x hx
    have := syl_parts h2.1 h2.2 x hx
    exact decide_eq_true (by omega)
  · cases hf : tab.find? (fun t => at0 t 0 == r) with
    | none =>
      have ha : apart r = [r] := by unfold apart; rw [if_neg h1, if_neg h2, hf]
      rw [ha]; simpa using h
    | some t =>
      have ha : apart r = [at0 t 1, at0 t 2] := by unfold apart; rw [if_neg h1, if_neg h2, hf]
      have := parts_good t (List.mem_of_find?_eq_some hf)
      rw [ha]; simp [this.2.1, this.2.2]

theorem full_good (n : Nat) {r : Int} (h : goodB r = true) : ∀ x ∈ full n r, goodB x = true := by
  induction n generalizing r with
  | zero => simpa [full] using h
  | succ n ih =>
    by_cases e : apart r = [r]
    · rw [full_leaf e]; simpa using h
    · rw [full_go e]
      intro x hx
      obtain ⟨y, hy, hx⟩ := List.mem_flatMap.1 hx
      exact ih (apart_good h y hy) x hx

theorem sorted_parts : ∀ t ∈ tab, sortM (all2 (at0 t 0)) = sortM (all2 (at0 t 1) ++ all2 (at0 t 2)) := by decide +kernel

theorem syl_full {r : Int} (n : Nat) (h1 : 44032 ≤ r) (h2 : r ≤ 55203) : full (n + 1) r = apart r := by
  have hp := syl_parts h1 h2
  have hne : apart r ≠ [r] := fun e => by have := hp r (by rw [e]; simp); omega
  rw [full_go hne]
  have key : ∀ l : List Int, (∀ x ∈ l, 4352 ≤ x ∧ x ≤ 4600) → l.flatMap (full n) = l := by
    intro l
    induction l with
    | nil => intro _; rfl
    | cons a l ih =>
      intro h
      rw [List.flatMap_cons, ih (fun x hx => h x (by simp [hx])), full_leaf (jamo_leaf (h a (by simp)).1 (h a (by simp)).2)]
      rfl
  exact key _ hp

/-- What is put together of two is taken apart into them. -/
theorem tog_apart {a b x : Int} (h : tog a b = some x) : sortM (all2 x) = sortM (all2 a ++ all2 b) ∧ goodB x = true := by
  unfold tog at h
  split at h
  · rename_i c
    obtain ⟨c1, c2, c3, c4⟩ := c
    obtain rfl := Option.some.inj h
    have e1 : (44032 + (a - 4352) * 588 + (b - 4449) * 28 - 44032) / 588 = a - 4352 := by omega
    have e2 : (44032 + (a - 4352) * 588 + (b - 4449) * 28 - 44032) % 588 / 28 = b - 4449 := by omega
    have e3 : ¬ 0 < (44032 + (a - 4352) * 588 + (b - 4449) * 28 - 44032) % 28 := by omega
    refine ⟨?_, decide_eq_true (by omega)⟩
    unfold all2
    rw [syl_full 1 (by omega) (by omega), full_leaf (jamo_leaf c1 (by omega)), full_leaf (jamo_leaf (by omega) (by omega)), syl_apart (by omega) (by omega), e1, e2, if_neg e3]
    congr 1
    simp; omega
  · split at h
    · rename_i c
      obtain ⟨⟨c1, c2⟩, c3, c4, c5⟩ := c
      obtain rfl := Option.some.inj h
      have e1 : (a + b - 4519 - 44032) / 588 = (a - 44032) / 588 := by omega
      have e2 : (a + b - 4519 - 44032) % 588 / 28 = (a - 44032) % 588 / 28 := by omega
      have e3 : (a + b - 4519 - 44032) % 28 = b - 4519 := by omega
      refine ⟨?_, decide_eq_true (by omega)⟩
      unfold all2
      rw [syl_full 1 (by omega) (by omega), syl_full 1 c1 c2, full_leaf (jamo_leaf (by omega) (by omega)), syl_apart (by omega) (by omega), syl_apart c1 c2, e1, e2, e3, if_pos (by omega), if_neg (by omega)]
      congr 1
      simp; omega
    · cases hf : tab.find? (fun t => at0 t 1 == a && at0 t 2 == b) with
      | none => rw [hf] at h; cases h
      | some t =>
        rw [hf] at h
        obtain rfl := Option.some.inj h
        have hm := List.mem_of_find?_eq_some hf
        have hp := List.find?_some hf
        simp at hp
        rw [← hp.1, ← hp.2]
        exact ⟨sorted_parts t hm, (parts_good t hm).1⟩

/-- The runes put together so far, and one more than the place of the last starter (0: none). -/
def push (s : List Int × Nat) (r : Int) : List Int × Nat := (s.1 ++ [r], if cls r = 0 then s.1.length + 1 else s.2)
def stepBy (free : Bool) (s : List Int × Nat) (r : Int) : List Int × Nat :=
  if free then match tog (at0 s.1 (s.2 - 1)) r with
    | some x => (s.1.set (s.2 - 1) x, s.2)
    | none => push s r
  else push s r
def freeS (s : List Int × Nat) (r : Int) : Bool := decide (0 < s.2 ∧ (s.1.length ≤ s.2 ∨ (cls (at0 s.1 (s.1.length - 1)) ≠ 0 ∧ cls (at0 s.1 (s.1.length - 1)) < cls r)))
def freeI (s : List Int × Nat) (r : Int) : Bool := decide (0 < s.2 ∧ ∀ b ∈ s.1.drop s.2, ¬ (cls b = 0 ∨ cls r ≤ cls b))
def compS (zs : List Int) : Nat → List Int × Nat
  | 0 => ([], 0)
  | k + 1 => stepBy (freeS (compS zs k) (at0 zs k)) (compS zs k) (at0 zs k)
def compI (zs : List Int) : Nat → List Int × Nat
  | 0 => ([], 0)
  | k + 1 => stepBy (freeI (compI zs k) (at0 zs k)) (compI zs k) (at0 zs k)

/-- What stands behind the last starter: marks that do not fall, none greater than the last rune that was looked at. -/
def Btw (s : List Int × Nat) (p : Int) : Prop := s.2 ≤ s.1.length ∧ (s.1.drop s.2 = [] ∨ 0 < cls p) ∧ (∀ b ∈ s.1.drop s.2, 0 < cls b ∧ cls b ≤ cls p) ∧ (s.1.drop s.2).Pairwise (fun x y => cls x ≤ cls y)

theorem last_drop (l : List Int) (k : Nat) (h : k < l.length) : ∃ pre, l.drop k = pre ++ [at0 l (l.length - 1)] := by
  refine ⟨(l.drop k).take (l.length - 1 - k), ?_⟩
  have h1 : at0 l (l.length - 1) = (l.drop k)[l.length - 1 - k]'(by simp; omega) := by
    simp [at0, List.getElem_drop, show k + (l.length - 1 - k) = l.length - 1 by omega, show l.length - 1 < l.length by omega]
  rw [h1, List.take_append_getElem]
  rw [List.take_of_length_le]
  simp; omega

theorem free_same {s : List Int × Nat} {p r : Int} (h : Btw s p) : freeI s r = freeS s r := by
  obtain ⟨h0, h1, h2, h3⟩ := h
  unfold freeI freeS
  by_cases hk : s.1.length ≤ s.2
  · have : s.1.drop s.2 = [] := List.drop_eq_nil_of_le hk
    simp [this, hk]
  · obtain ⟨pre, hp⟩ := last_drop s.1 s.2 (by omega)
    generalize at0 s.1 (s.1.length - 1) = z at *
    rw [hp] at h2 h3 ⊢
    rw [List.pairwise_append] at h3
    have hz := h2 z (by simp)
    apply decide_eq_decide.2
    constructor
    · rintro ⟨a, b⟩
      have := b z (by simp)
      exact ⟨a, .inr ⟨by omega, by omega⟩⟩
    · rintro ⟨a, b⟩
      rcases b with b | b
      · omega
      · refine ⟨a, fun x hx => ?_⟩
        have hx2 := h2 x hx
        rcases List.mem_append.1 hx with hx | hx
        · have := h3.2.2 x hx z (by simp); omega
        · simp at hx; subst hx; omega

theorem btw_push {s : List Int × Nat} {p r : Int} (h : Btw s p) (hr : 0 < cls r → cls p ≤ cls r) : Btw (push s r) r := by
  obtain ⟨h0, h1, h2, h3⟩ := h
  unfold push
  by_cases c : cls r = 0
  · rw [if_pos c]
    have e : (s.1 ++ [r]).drop (s.1.length + 1) = [] := List.drop_eq_nil_of_le (by simp)
    exact ⟨by simp, .inl e, by simp [e], by simp [e]⟩
  · rw [if_neg c]
    have hc : 0 < cls r := by have := (cls_range r).1; omega
    have e : (s.1 ++ [r]).drop s.2 = s.1.drop s.2 ++ [r] := by rw [List.drop_append_of_le_length h0]
    have := hr hc
    refine ⟨by simp; omega, .inr hc, ?_, ?_⟩
    · show ∀ b ∈ (s.1 ++ [r]).drop s.2, _
      rw [e]
      intro b hb
      rcases List.mem_append.1 hb with hb | hb
      · have := h2 b hb; omega
      · simp at hb; subst hb; omega
    · show ((s.1 ++ [r]).drop s.2).Pairwise _
      rw [e, List.pairwise_append]
      refine ⟨h3, by simp, fun b hb y hy => ?_⟩
      simp at hy; subst hy
      have := h2 b hb; omega

theorem btw_step {s : List Int × Nat} {p r : Int} (h : Btw s p) (hr : 0 < cls r → cls p ≤ cls r) : Btw (stepBy (freeS s r) s r) r := by
  unfold stepBy
  split
  · rename_i hf
    split
    · rename_i x hx
      have hf2 := of_decide_eq_true hf
      obtain ⟨h0, h1, h2, h3⟩ := h
      have e : (s.1.set (s.2 - 1) x).drop s.2 = s.1.drop s.2 := by
        rw [List.drop_set_of_lt (by omega)]
      refine ⟨by simp; exact h0, ?_, ?_, ?_⟩
      · show (s.1.set (s.2 - 1) x).drop s.2 = [] ∨ _
        rw [e]
        rcases hf2.2 with hk | hk
        · exact .inl (List.drop_eq_nil_of_le hk)
        · have := (cls_range (at0 s.1 (s.1.length - 1))).1; right; omega
      · show ∀ b ∈ (s.1.set (s.2 - 1) x).drop s.2, _
        rw [e]
        intro b hb
        have hb2 := h2 b hb
        rcases hf2.2 with hk | hk
        · rw [List.drop_eq_nil_of_le hk] at hb; cases hb
        · have := (cls_range (at0 s.1 (s.1.length - 1))).1
          have := hr (by omega)
          omega
      · show ((s.1.set (s.2 - 1) x).drop s.2).Pairwise _
        rw [e]; exact h3
    · exact btw_push h hr
  · exact btw_push h hr

theorem comp_same (zs : List Int) (hs : ∀ i, i + 1 < zs.length → Adj zs i) (k : Nat) (hk : k ≤ zs.length) : compI zs k = compS zs k ∧ (k = 0 ∨ Btw (compS zs k) (at0 zs (k - 1))) := by
  induction k with
  | zero => exact ⟨rfl, .inl rfl⟩
  | succ k ih =>
    obtain ⟨e, hb⟩ := ih (by omega)
    have hb2 : Btw (compS zs k) (if k = 0 then 0 else at0 zs (k - 1)) := by
      rcases hb with rfl | hb
      · exact ⟨by simp [compS], .inl (by simp [compS]), by simp [compS], by simp [compS]⟩
      · by_cases h0 : k = 0
        · subst h0; exact ⟨by simp [compS], .inl (by simp [compS]), by simp [compS], by simp [compS]⟩
        · rw [if_neg h0]; exact hb
    have hr : 0 < cls (at0 zs k) → cls (if k = 0 then 0 else at0 zs (k - 1)) ≤ cls (at0 zs k) := by
      intro hp
      by_cases h0 : k = 0
      · rw [if_pos h0]; have : cls 0 = 0 := by decide
        omega
      · rw [if_neg h0]
        have := hs (k - 1) (by omega)
        unfold Adj at this
        rw [show k - 1 + 1 = k by omega] at this
        exact this hp
    refine ⟨?_, .inr ?_⟩
    · show stepBy (freeI (compI zs k) (at0 zs k)) (compI zs k) (at0 zs k) = stepBy (freeS (compS zs k) (at0 zs k)) (compS zs k) (at0 zs k)
      rw [e, free_same hb2]
    · exact btw_step hb2 hr

theorem step_len (f : Bool) (s : List Int × Nat) (r : Int) : (stepBy f s r).1.length ≤ s.1.length + 1 ∧ (s.2 ≤ s.1.length → (stepBy f s r).2 ≤ (stepBy f s r).1.length) := by
  unfold stepBy push
  split
  · split
    · simp
    · simp; split <;> omega
  · simp; split <;> omega

theorem compS_len (zs : List Int) (k : Nat) : (compS zs k).1.length ≤ k ∧ (compS zs k).2 ≤ (compS zs k).1.length := by
  induction k with
  | zero => simp [compS]
  | succ k ih =>
    have := step_len (freeS (compS zs k) (at0 zs k)) (compS zs k) (at0 zs k)
    exact ⟨by rw [compS]; omega, this.2 ih.2⟩

theorem compI_len (zs : List Int) (k : Nat) : (compI zs k).1.length ≤ k ∧ (compI zs k).2 ≤ (compI zs k).1.length := by
  induction k with
  | zero => simp [compI]
  | succ k ih =>
    have := step_len (freeI (compI zs k) (at0 zs k)) (compI zs k) (at0 zs k)
    exact ⟨by rw [compI]; omega, this.2 ih.2⟩

/-- All runes taken apart, ahead of sorting. -/
def apD (zs : List Int) : List Int := zs.flatMap all2
def nD (zs : List Int) : List Int := sortM (apD zs)
def nC (zs : List Int) : List Int := (compS (nD zs) (nD zs).length).1

theorem apD_len (zs : List Int) : (apD zs).length ≤ zs.length * 9 := flatMap_len all2 9 zs all2_len
theorem nD_len (zs : List Int) : (nD zs).length = (apD zs).length := sortM_length _
theorem apD_good {zs : List Int} (h : ∀ x ∈ zs, goodB x = true) : ∀ x ∈ apD zs, goodB x = true := by
  intro x hx
  obtain ⟨y, hy, hx⟩ := List.mem_flatMap.1 hx
  exact full_good 2 (h y hy) x hx
theorem nC_I (zs : List Int) : (compI (nD zs) (nD zs).length).1 = nC zs := by
  have hs : ∀ i, i + 1 < (nD zs).length → Adj (nD zs) i := fun i hi => sortM_adj (apD zs) i (by rw [nD_len] at hi; exact hi)
  rw [(comp_same (nD zs) hs (nD zs).length (Nat.le_refl _)).1]; rfl
end Go.Proofs.YtinjldagfhbioaaGreatDoor
