/- Good rows, without memory. -/
import Derived.Test.YtbgomhgohphglaaDoorRw
namespace Go.Proofs.YtbgomhgohphglaaDoor

/-- Whether the texts of a row are as long as they may be. -/
def sz1 (x : Rw) : Bool := decide (x.key.size ≤ 200) && decide (x.text.size ≤ 80) && decide (x.val.size ≤ 80)

/-- Whether a key is less than another. -/
def ltK (a b : ByteArray) : Bool := Op.bytesLess a.toList b.toList

def rwAt (l : List Rw) (i : Nat) : Rw := (l[i]?).getD rwZ

def okAt (l : List Rw) (i : Nat) : Bool := sz1 (rwAt l i) && (i == 0 || ltK (rwAt l (i - 1)).key (rwAt l i).key)

/-- Whether rows are good. -/
def goodR (l : List Rw) : Bool := decide (l.length ≤ 60) && (List.range l.length).all (okAt l)

theorem goodR_long {l : List Rw} (h : ¬ l.length ≤ 60) : goodR l = false := by simp [goodR, h]

theorem goodR_not {l : List Rw} {k : Nat} (hk : k < l.length) (h : okAt l k = false) : goodR l = false := by
  unfold goodR
  have : (List.range l.length).all (okAt l) = false := by
    rw [List.all_eq_false]
    exact ⟨k, by simpa using hk, by simp [h]⟩
  rw [this, Bool.and_false]

theorem goodR_all {l : List Rw} (h : l.length ≤ 60) (ha : ∀ i, i < l.length → okAt l i = true) : goodR l = true := by
  unfold goodR
  have : (List.range l.length).all (okAt l) = true := by
    rw [List.all_eq_true]
    intro i hi
    exact ha i (by simpa using hi)
  rw [this]
  simp [h]

theorem goodR_len {l : List Rw} (h : goodR l = true) : l.length ≤ 60 := by
  unfold goodR at h
  simp at h
  exact h.1

theorem goodR_at {l : List Rw} (h : goodR l = true) {i : Nat} (hi : i < l.length) : okAt l i = true := by
  unfold goodR at h
  simp at h
  exact h.2 i hi

theorem okAt_zero {l : List Rw} {x : Rw} (hx : l[0]? = some x) : okAt l 0 = sz1 x := by
  simp [okAt, rwAt, hx]

theorem okAt_succ {l : List Rw} {j : Nat} {x y : Rw} (hx : l[j + 1]? = some x) (hy : l[j]? = some y) : okAt l (j + 1) = (sz1 x && ltK y.key x.key) := by
  simp [okAt, rwAt, hx, hy]

theorem okAt_sz {l : List Rw} {k : Nat} {x : Rw} (hx : l[k]? = some x) (h : sz1 x = false) : okAt l k = false := by
  simp [okAt, rwAt, hx, h]

theorem sz1_true {x : Rw} (h0 : x.key.size ≤ 200) (h1 : x.text.size ≤ 80) (h2 : x.val.size ≤ 80) : sz1 x = true := by simp [sz1, h0, h1, h2]
theorem sz1_key {x : Rw} (h0 : ¬ x.key.size ≤ 200) : sz1 x = false := by simp [sz1, h0]
theorem sz1_text {x : Rw} (h0 : ¬ x.text.size ≤ 80) : sz1 x = false := by simp [sz1, h0]
theorem sz1_val {x : Rw} (h0 : ¬ x.val.size ≤ 80) : sz1 x = false := by simp [sz1, h0]

theorem sz1_parts {x : Rw} (h : sz1 x = true) : x.key.size ≤ 200 ∧ x.text.size ≤ 80 ∧ x.val.size ≤ 80 := by
  simp [sz1] at h
  exact ⟨h.1.1, h.1.2, h.2⟩

theorem goodR_sz {l : List Rw} (h : goodR l = true) : ∀ x ∈ l, x.key.size ≤ 200 ∧ x.text.size ≤ 80 ∧ x.val.size ≤ 80 := by
  intro x hx
  obtain ⟨i, hi⟩ := List.getElem?_of_mem hx
  have := goodR_at h (List.getElem?_eq_some_iff.1 hi).1
  unfold okAt rwAt at this
  rw [hi] at this
  simp only [Option.getD_some, Bool.and_eq_true] at this
  exact sz1_parts this.1

theorem okAt_snoc {l : List Rw} {k : Nat} (h : ∀ j, j < k → okAt l j = true) (hk : okAt l k = true) : ∀ j, j < k + 1 → okAt l j = true := by
  intro j hj
  by_cases e : j = k
  · rw [e]; exact hk
  · exact h j (by omega)
end Go.Proofs.YtbgomhgohphglaaDoor
