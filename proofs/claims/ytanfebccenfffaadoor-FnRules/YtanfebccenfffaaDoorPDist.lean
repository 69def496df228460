/- No two that rules put have one weight, without memory. -/
import Derived.Test.YtanfebccenfffaaDoorPRead
namespace Go.Proofs.YtanfebccenfffaaDoor

theorem stepN_free {p : Int → Bool} {nx : Int → Int} {M : Int} (hp : ∀ n, p n = true → n ≤ M) (hx : ∀ n, n < nx n) : ∀ (f : Nat) (n : Int), M - n < (f : Int) → p (stepN p nx f n) = false := by
  intro f
  induction f with
  | zero =>
    intro n h
    cases c : p n
    · exact c
    · have := hp n c; omega
  | succ f ih =>
    intro n h
    unfold stepN
    split
    · have := hx n
      exact ih (nx n) (by omega)
    · rename_i c; simpa using c

theorem step1_ends {es : List Ent} (hF : ∀ e ∈ es, e.el.first ≤ 65535) : ∀ (f : Nat) (n : Int), n ≤ 65536 → 65536 - n ≤ (f : Int) → freeE es (step1 es f n) = true := by
  intro f
  induction f with
  | zero =>
    intro n h1 h2
    have : n = 65536 := by omega
    subst this
    exact free_top hF
  | succ f ih =>
    intro n h1 h2
    unfold step1
    split
    · assumption
    · rename_i c
      have : n ≠ 65536 := fun e => c (by rw [e]; exact free_top hF)
      exact ih (n + 1) (by omega) (by omega)

/-- No entry has this elem. -/
theorem behind_new {st : RS} {lev : Nat} (hi : RInv st) (hl : lev = 1 ∨ lev = 2 ∨ lev = 3) : ∀ e ∈ st.es, e.el ≠ behindE st.es st.last lev := by
  obtain ⟨h1, h2, h3⟩ := rulesOk_whole hi.good
  intro e he c
  rcases hl with rfl | rfl | rfl
  · have hf := step1_ends (es := st.es) (fun e he => (h3 e he).2.1.2) (65535 - st.last.first).toNat (st.last.first + 1) (by have := hi.f1; omega) (by have := hi.f1; omega)
    have e1 : e.el.first = step1 st.es (65535 - st.last.first).toNat (st.last.first + 1) := by rw [c]; rfl
    rw [← e1] at hf
    unfold freeE at hf
    rw [Bool.and_eq_true] at hf
    have := List.all_eq_true.1 hf.2 e he
    simp at this
  · have hf := stepN_free (p := fun n => hasQ st.es (q2 st.last n)) (nx := nx2) (M := 999) (fun n hn => by
      obtain ⟨x, hx, hq⟩ := List.any_eq_true.1 hn
      unfold q2 at hq
      rw [Bool.and_eq_true] at hq
      have := (h3 x hx).2.2.1.2
      have := eq_of_beq hq.2
      omega) (fun n => by unfold nx2; omega) 1001 (st.last.second + 1) (by have := hi.s0; omega)
    have e1 : e.el.first = st.last.first := by rw [c]; rfl
    have e2 : e.el.second = stepN (fun n => hasQ st.es (q2 st.last n)) nx2 1001 (st.last.second + 1) := by rw [c]; rfl
    rw [← e2] at hf
    have : hasQ st.es (q2 st.last e.el.second) = true := List.any_eq_true.2 ⟨e, he, by unfold q2; simp [e1]⟩
    rw [this] at hf
    cases hf
  · have hf := stepN_free (p := fun n => hasQ st.es (q3 st.last n)) (nx := nx3) (M := 99) (fun n hn => by
      obtain ⟨x, hx, hq⟩ := List.any_eq_true.1 hn
      unfold q3 at hq
      rw [Bool.and_eq_true] at hq
      have := (h3 x hx).2.2.2.1.2
      have := eq_of_beq hq.2
      omega) nx3_lt 1001 (nx3 st.last.third) (by have := hi.t0; have := nx3_lt st.last.third; omega)
    have e1 : e.el.first = st.last.first := by rw [c]; rfl
    have e2 : e.el.second = st.last.second := by rw [c]; rfl
    have e3 : e.el.third = stepN (fun n => hasQ st.es (q3 st.last n)) nx3 1001 (nx3 st.last.third) := by rw [c]; rfl
    rw [← e3] at hf
    have : hasQ st.es (q3 st.last e.el.third) = true := List.any_eq_true.2 ⟨e, he, by unfold q3; simp [e1, e2]⟩
    rw [this] at hf
    cases hf

/-- No two entries have one elem. -/
def DistE (es : List Ent) : Prop := ∀ (i j : Nat) (e e' : Ent), i < j → es[i]? = some e → es[j]? = some e' → e.el ≠ e'.el

theorem DistE.snoc {es : List Ent} {x : Ent} (h : DistE es) (hx : ∀ e ∈ es, e.el ≠ x.el) : DistE (es ++ [x]) := by
  intro i j e e' hij he he'
  have hj := (List.getElem?_eq_some_iff.1 he').1
  simp at hj
  by_cases c : j < es.length
  · rw [List.getElem?_append_left (by omega)] at he
    rw [List.getElem?_append_left c] at he'
    exact h i j e e' hij he he'
  · have : j = es.length := by omega
    subst this
    rw [List.getElem?_append_left (by omega)] at he
    simp at he'
    subst he'
    exact hx e (List.mem_of_getElem? he)

theorem putIn_dist {st st' : RS} {lev : Nat} {l : List Int} (hi : RInv st) (hd : DistE st.es) (hl : lev ≤ 3) (h : putIn st lev l = .ok st') : DistE st'.es := by
  unfold putIn at h
  split at h
  · cases h
  · split at h
    · split at h
      · cases h
      · split at h
        · cases h
        · cases h; exact hd
    · rename_i c0
      split at h
      · cases h
      · split at h
        · cases h
        · split at h
          · cases h
            exact hd.snoc (behind_new hi (by omega))
          · cases h

theorem levOf_le {x : ByteArray} {lev : Nat} (h : levOf x = some lev) : lev ≤ 3 := by
  unfold levOf at h
  repeat' split at h
  all_goals first | (cases h; omega) | cases h

theorem readW_dist : ∀ (ws : List ByteArray) (st st' : RS), RInv st → DistE st.es → readW ws st = .ok st' → DistE st'.es ∧ RInv st'
  | [], st, st', hi, hd, h => by
    unfold readW at h
    cases h
    exact ⟨hd, hi⟩
  | x :: ws, st, st', hi, hd, h => by
    unfold readW at h
    split at h
    · exact readW_dist ws { st with sh := true } st' ⟨hi.good, hi.f0, hi.f1, hi.s0, hi.s1, hi.t0, hi.t1⟩ hd h
    · split at h
      · split at h
        · cases h
        · rename_i y ws'
          split at h
          · cases h
          · rename_i n hn
            refine readW_dist ws' { st with lv := n } st' ⟨rulesOk_lv hi.good ?_, hi.f0, hi.f1, hi.s0, hi.s1, hi.t0, hi.t1⟩ hd h
            unfold levN at hn
            split at hn
            · cases hn; simp only; omega
            · cases hn
      · split at h
        · cases h
        · rename_i lev hlev
          split at h
          · cases h
          · rename_i y ws'
            split at h
            · cases h
            · split at h
              · cases h
              · rename_i st2 hp
                exact readW_dist ws' st2 st' (putIn_inv hi hp) (putIn_dist hi hd (levOf_le hlev) hp) h

theorem readW_code : ∀ (ws : List ByteArray) (st : RS) (c : Int), readW ws st = .error c → c ≠ 0
  | [], st, c, h => by unfold readW at h; cases h
  | x :: ws, st, c, h => by
    unfold readW at h
    split at h
    · exact readW_code ws _ c h
    · split at h
      · split at h
        · cases h; decide
        · rename_i y ws'
          split at h
          · cases h; decide
          · exact readW_code ws' _ c h
      · split at h
        · cases h; decide
        · split at h
          · cases h; decide
          · rename_i y ws'
            split at h
            · cases h; decide
            · split at h
              · rename_i k hp
                cases h
                exact putIn_code hp
              · exact readW_code ws' _ c h

/-- What ReadRules reads: good rules, no two of which have one weight. -/
theorem readA_dist (s : ByteArray) (h : (readA s).code = 0) : rulesOk (readA s).es (readA s).lv = true ∧ DistE (readA s).es := by
  unfold readA at h ⊢
  split at h
  · cases h
  · rename_i c
    rw [if_neg c]
    cases e : readW (words s) rs0 with
    | error k => rw [e] at h; exact absurd h (readW_code _ _ _ e)
    | ok st =>
      have := readW_dist (words s) rs0 st rinv0 (fun i j e e' _ h1 => by simp [rs0] at h1) e
      exact ⟨this.2.good, this.1⟩
end Go.Proofs.YtanfebccenfffaaDoor
