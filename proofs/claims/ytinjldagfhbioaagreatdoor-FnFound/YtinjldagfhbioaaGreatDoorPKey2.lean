/- The weights of a level, keys and first weights, without memory. -/
import Derived.Test.YtinjldagfhbioaaGreatDoorPKey
import Derived.Test.YtinjldagfhbioaaGreatDoorFour
import Derived.Test.YtinjldagfhbioaaGreatDoorSRule2
namespace Go.Proofs.YtinjldagfhbioaaGreatDoor

/-- The weights of an elem lie in two bytes. -/
def rngE (e : El) : Prop := (0 ≤ e.first ∧ e.first ≤ 65535) ∧ (0 ≤ e.second ∧ e.second ≤ 65535) ∧ (0 ≤ e.third ∧ e.third ≤ 65535)

theorem place_lt {l : List Int} {r : Int} {i : Nat} (h : placeIn l r = some i) : i < l.length := by
  unfold placeIn at h
  obtain ⟨hi, _⟩ := List.findIdx?_eq_some_iff_getElem.1 h
  exact hi

theorem base_rng {r : Int} (h0 : 0 ≤ r) (h1 : r ≤ 1114111) : ∀ e ∈ base r, rngE e := by
  intro e he
  unfold base at he
  split at he
  · rename_i i hi
    have := place_lt hi
    simp [vsl] at this
    simp only [List.mem_singleton] at he
    subst he
    unfold rngE
    simp only
    omega
  · split at he
    · rename_i i hi
      have := place_lt hi
      simp [mkl] at this
      simp only [List.mem_singleton] at he
      subst he
      unfold rngE
      simp only
      omega
    · unfold baseRest at he
      unfold rngE
      split at he
      · cases he
      · split at he
        · simp only [List.mem_singleton] at he
          subst he
          simp only
          omega
        · split at he
          · simp only [List.mem_singleton] at he
            subst he
            simp only
            omega
          · split at he
            · simp only [List.mem_singleton] at he
              subst he
              simp only
              omega
            · simp only [List.mem_cons, List.not_mem_nil, or_false] at he
              rcases he with rfl | rfl <;> simp only <;> omega

theorem ents_rng {es : List Ent} {lv : Int} (h : rulesOk es lv = true) : ∀ e ∈ es, rngE e.el := by
  intro e he
  obtain ⟨i, hi⟩ := List.getElem?_of_mem he
  have h1 := (entsOk_iff es).1 (of_decide_eq_true h).2.2 i e hi
  unfold entOk at h1
  simp only [Bool.and_eq_true, decide_eq_true_eq] at h1
  unfold rngE
  omega

theorem elems4_rng {es : List Ent} {lv : Int} (h : rulesOk es lv = true) {l : List Int} (hl : ∀ x ∈ l, 0 ≤ x ∧ x ≤ 1114111) : ∀ e ∈ elems4 es l, rngE e :=
  elems4_all (ents_rng h) l fun x hx => base_rng (hl x hx).1 (hl x hx).2

theorem four1_rng {sh b : Bool} {e : El} (h : rngE e) : (0 ≤ (four1 sh b e).1 ∧ (four1 sh b e).1 ≤ 65535) ∧ rngE (four1 sh b e).2.1 := by
  have hz : rngE elZ := by unfold rngE elZ; simp
  unfold four1
  split
  · exact ⟨by simp, h⟩
  · split
    · exact ⟨h.1, hz⟩
    · split
      · exact ⟨by simp, hz⟩
      · refine ⟨?_, h⟩
        simp only
        split <;> omega

theorem fourS_rng {sh : Bool} {es : List El} (h : ∀ e ∈ es, rngE e) (k : Nat) : (∀ f ∈ (fourS sh es k).1, 0 ≤ f ∧ f ≤ 65535) ∧ ∀ e ∈ (fourS sh es k).2.1, rngE e := by
  induction k with
  | zero => exact ⟨fun f hf => by simp [fourS] at hf, fun f hf => by simp [fourS] at hf⟩
  | succ k ih =>
    unfold fourS
    split
    · exact ih
    · rename_i e he
      have := four1_rng (sh := sh) (b := (fourS sh es k).2.2) (h e (List.mem_of_getElem? he))
      refine ⟨fun f hf => ?_, fun x hx => ?_⟩
      · rcases List.mem_append.1 hf with h1 | h1
        · exact ih.1 f h1
        · simp only [List.mem_singleton] at h1
          subst h1
          exact this.1
      · rcases List.mem_append.1 hx with h1 | h1
        · exact ih.2 x h1
        · simp only [List.mem_singleton] at h1
          subst h1
          exact this.2

theorem fourS_full {sh : Bool} {es : List El} {k : Nat} (hk : k ≤ es.length) : (fourS sh es k).1.length = k ∧ (fourS sh es k).2.1.length = k := by
  induction k with
  | zero => exact ⟨rfl, rfl⟩
  | succ k ih =>
    have hkl : k < es.length := by omega
    have := ih (by omega)
    unfold fourS
    rw [List.getElem?_eq_getElem hkl]
    simp
    exact this

theorem fourths_len (sh : Bool) (es : List El) : (fourths sh es).length = es.length := (fourS_full (Nat.le_refl _)).1
theorem counted_len (sh : Bool) (es : List El) : (counted sh es).length = es.length := (fourS_full (Nat.le_refl _)).2

/-- The weight of a level. -/
def wtL (lv : Nat) (e : El) (f : Int) : Int := if lv = 1 then e.first else if lv = 2 then e.second else if lv = 3 then e.third else f
def elAt (xs : List El) (k : Nat) : El := (xs[k]?).getD elZ
def ifNot (n : Int) : List Int := if n = 0 then [] else [n]

theorem ifNot_zero {n : Int} (h : n = 0) : ifNot n = [] := by unfold ifNot; rw [if_pos h]
theorem ifNot_some {n : Int} (h : n ≠ 0) : ifNot n = [n] := by unfold ifNot; rw [if_neg h]

/-- The weights of a level that are not 0, of the first k elems. -/
def wtsK (lv : Nat) (xs : List El) (fs : List Int) : Nat → List Int
  | 0 => []
  | k + 1 => wtsK lv xs fs k ++ ifNot (wtL lv (elAt xs k) (at0 fs k))
def wts (lv : Nat) (xs : List El) (fs : List Int) : List Int := wtsK lv xs fs xs.length

theorem wtL_rng {lv : Nat} {e : El} {f : Int} (he : rngE e) (hf : 0 ≤ f ∧ f ≤ 65535) : 0 ≤ wtL lv e f ∧ wtL lv e f ≤ 65535 := by
  unfold rngE at he
  unfold wtL
  split
  · exact he.1
  · split
    · exact he.2.1
    · split
      · exact he.2.2
      · exact hf

theorem elAt_rng {xs : List El} (h : ∀ e ∈ xs, rngE e) (k : Nat) : rngE (elAt xs k) := by
  unfold elAt
  cases hx : xs[k]? with
  | none => unfold rngE elZ; simp
  | some e => exact h e (List.mem_of_getElem? hx)

theorem at0_rng {fs : List Int} (h : ∀ f ∈ fs, 0 ≤ f ∧ f ≤ 65535) (k : Nat) : 0 ≤ at0 fs k ∧ at0 fs k ≤ 65535 := by
  unfold at0
  cases hx : fs[k]? with
  | none => simp
  | some e => exact h e (List.mem_of_getElem? hx)

theorem wtsK_rng {lv : Nat} {xs : List El} {fs : List Int} (hx : ∀ e ∈ xs, rngE e) (hf : ∀ f ∈ fs, 0 ≤ f ∧ f ≤ 65535) (k : Nat) : ∀ n ∈ wtsK lv xs fs k, 1 ≤ n ∧ n ≤ 65535 := by
  induction k with
  | zero => intro n hn; cases hn
  | succ k ih =>
    intro n hn
    rcases List.mem_append.1 hn with h | h
    · exact ih n h
    · unfold ifNot at h
      split at h
      · cases h
      · rename_i h0
        simp only [List.mem_singleton] at h
        subst h
        have := wtL_rng (lv := lv) (elAt_rng hx k) (at0_rng hf k)
        omega

theorem wtsK_len (lv : Nat) (xs : List El) (fs : List Int) (k : Nat) : (wtsK lv xs fs k).length ≤ k := by
  induction k with
  | zero => exact Nat.le_refl _
  | succ k ih =>
    rw [wtsK, List.length_append]
    unfold ifNot
    split <;> simp <;> omega

/-- Weights as bytes, the higher one first. -/
def by2 (n : Int) : List Int := [n / 256, n % 256]
def bysOf (ws : List Int) : List Int := ws.flatMap by2

theorem bysOf_nil : bysOf [] = [] := rfl
theorem bysOf_app (a b : List Int) : bysOf (a ++ b) = bysOf a ++ bysOf b := by unfold bysOf; rw [List.flatMap_append]
theorem bysOf_one (n : Int) : bysOf [n] = [n / 256, n % 256] := by simp [bysOf, by2]
theorem bysOf_len (ws : List Int) : (bysOf ws).length = 2 * ws.length := by
  induction ws with
  | nil => rfl
  | cons x xs ih =>
    unfold bysOf at ih ⊢
    rw [List.flatMap_cons, List.length_append, ih]
    simp [by2]
    omega

def sepB (lv : Nat) : List Int := if 1 < lv then [0, 0] else []
/-- The bytes of the levels 1 to n. -/
def keyN (xs : List El) (fs : List Int) : Nat → List Int
  | 0 => []
  | n + 1 => keyN xs fs n ++ (sepB (n + 1) ++ bysOf (wts (n + 1) xs fs))

theorem keyN_len (xs : List El) (fs : List Int) (n : Nat) : (keyN xs fs n).length ≤ n * (2 + 2 * xs.length) := by
  induction n with
  | zero => simp [keyN]
  | succ n ih =>
    have h1 := wtsK_len (n + 1) xs fs xs.length
    have h2 : (sepB (n + 1)).length ≤ 2 := by unfold sepB; split <;> simp
    have h3 : (n + 1) * (2 + 2 * xs.length) = n * (2 + 2 * xs.length) + (2 + 2 * xs.length) := Nat.succ_mul _ _
    rw [keyN, List.length_append, List.length_append, bysOf_len, h3]
    unfold wts
    omega

/-- Bytes as a text. -/
def bytesOf (bs : List Int) : ByteArray := ⟨(bs.map fun x => x.toNat.toUInt8).toArray⟩

/-- The key of runes, and their first weights. -/
def keyB (es : List Ent) (sh : Bool) (lv : Int) (l : List Int) : List Int := keyN (counted sh (elems4 es l)) (fourths sh (elems4 es l)) lv.toNat
def firstsB (es : List Ent) (sh : Bool) (l : List Int) : List Int := wts 1 (counted sh (elems4 es l)) (fourths sh (elems4 es l))

theorem firstsB_rng {es : List Ent} {sh : Bool} {lv : Int} (h : rulesOk es lv = true) {l : List Int} (hl : ∀ x ∈ l, 0 ≤ x ∧ x ≤ 1114111) : ∀ n ∈ firstsB es sh l, 1 ≤ n ∧ n ≤ 65535 :=
  wtsK_rng (fourS_rng (elems4_rng h hl) _).2 (fourS_rng (elems4_rng h hl) _).1 _

theorem firstsB_len (es : List Ent) (sh : Bool) (l : List Int) : (firstsB es sh l).length ≤ 2 * l.length := by
  have h1 := wtsK_len 1 (counted sh (elems4 es l)) (fourths sh (elems4 es l)) (counted sh (elems4 es l)).length
  have h2 := counted_len sh (elems4 es l)
  have h3 := elems4_len es l
  unfold firstsB wts
  omega
end Go.Proofs.YtinjldagfhbioaaGreatDoor
