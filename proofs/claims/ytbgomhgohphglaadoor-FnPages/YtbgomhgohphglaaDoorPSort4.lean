/- Texts with keys, sorted by going past what is greater, without memory. -/
import Derived.Test.YtbgomhgohphglaaDoorProg
namespace Go.Proofs.YtbgomhgohphglaaDoor

def ltS (a b : ByteArray) : Bool := Op.bytesLess a.toList b.toList
def eqS (a b : ByteArray) : Bool := a.toList == b.toList
def gtS (a b : ByteArray) : Bool := !(ltS a b || eqS a b)
/-- How two keys stand to each other. -/
def cmpS (a b : ByteArray) : Int := if ltS a b = true then -1 else if gtS a b = true then 1 else 0

theorem less_irrefl : ∀ x : List UInt8, Op.bytesLess x x = false
  | [] => rfl
  | a :: x => by simp [Op.bytesLess, less_irrefl x]

theorem less_asymm : ∀ x y : List UInt8, Op.bytesLess x y = true → Op.bytesLess y x = false ∧ (x == y) = false
  | _, [], h => by simp [Op.bytesLess] at h
  | [], b :: y, _ => by simp [Op.bytesLess]
  | a :: x, b :: y, h => by
    simp only [Op.bytesLess, Bool.or_eq_true, Bool.and_eq_true, decide_eq_true_eq, beq_iff_eq] at h
    rcases h with h | ⟨rfl, h⟩
    · have h1 : ¬ b < a := fun c => absurd (UInt8.lt_trans h c) (UInt8.lt_irrefl _)
      have h2 : a ≠ b := UInt8.ne_of_lt h
      have h3 : b ≠ a := fun e => h2 e.symm
      simp [Op.bytesLess, h1, h2, h3]
    · have := less_asymm x y h
      simp only [beq_eq_false_iff_ne] at this
      simp [Op.bytesLess, this.1, this.2]

theorem less_total : ∀ x y : List UInt8, Op.bytesLess x y = true ∨ (x == y) = true ∨ Op.bytesLess y x = true
  | [], [] => by simp
  | [], _ :: _ => by simp [Op.bytesLess]
  | _ :: _, [] => by simp [Op.bytesLess]
  | a :: x, b :: y => by
    have := less_total x y
    rcases Nat.lt_trichotomy a.toNat b.toNat with h | h | h
    · left
      simp [Op.bytesLess, UInt8.lt_iff_toNat_lt, h]
    · obtain rfl : a = b := UInt8.toNat.inj h
      simpa [Op.bytesLess] using this
    · right; right
      simp [Op.bytesLess, UInt8.lt_iff_toNat_lt, h]

theorem less_trans : ∀ x y z : List UInt8, Op.bytesLess x y = true → Op.bytesLess y z = true → Op.bytesLess x z = true
  | _, _, [], _, h => by cases h' : ‹List UInt8› <;> simp [Op.bytesLess] at h
  | _, [], _ :: _, h, _ => by simp [Op.bytesLess] at h
  | [], _ :: _, _ :: _, _, _ => by simp [Op.bytesLess]
  | a :: x, b :: y, c :: z, h1, h2 => by
    simp only [Op.bytesLess, Bool.or_eq_true, Bool.and_eq_true, decide_eq_true_eq, beq_iff_eq] at h1 h2 ⊢
    rcases h1 with h1 | ⟨rfl, h1⟩
    · rcases h2 with h2 | ⟨rfl, h2⟩
      · exact .inl (UInt8.lt_trans h1 h2)
      · exact .inl h1
    · rcases h2 with h2 | ⟨rfl, h2⟩
      · exact .inl h2
      · exact .inr ⟨rfl, less_trans x y z h1 h2⟩

theorem gtS_lt (a b : ByteArray) : gtS a b = ltS b a := by
  unfold gtS ltS eqS
  cases h : Op.bytesLess b.toList a.toList
  · rcases less_total a.toList b.toList with h1 | h1 | h1
    · rw [h1]; rfl
    · rw [h1]; simp
    · rw [h] at h1; cases h1
  · have h1 := less_asymm _ _ h
    have h2 : (a.toList == b.toList) = false := by
      have := h1.2
      simp only [beq_eq_false_iff_ne, ne_eq] at this ⊢
      exact fun e => this e.symm
    rw [h1.1, h2]; rfl

theorem cmpS_neg (a b : ByteArray) : cmpS b a = - cmpS a b := by
  unfold cmpS
  rw [gtS_lt, gtS_lt]
  cases h : ltS a b
  · cases h2 : ltS b a <;> rfl
  · have := (less_asymm _ _ h).1
    have h2 : ltS b a = false := this
    rw [h2]; rfl

theorem cmpS_self (a : ByteArray) : cmpS a a = 0 := by
  unfold cmpS
  rw [gtS_lt]
  have : ltS a a = false := less_irrefl _
  rw [this]; rfl

/-- A key and its text. -/
structure KT where
  key : ByteArray
  text : ByteArray

def ktZ : KT := ⟨⟨#[]⟩, ⟨#[]⟩⟩
def ktAt (l : List KT) (k : Nat) : KT := (l[k]?).getD ktZ

/-- The one at place j goes to the front past what is greater. -/
def bubK : List KT → Nat → List KT
  | l, 0 => l
  | l, j + 1 => if gtS (ktAt l j).key (ktAt l (j + 1)).key = true then bubK ((l.set j (ktAt l (j + 1))).set (j + 1) (ktAt l j)) j else l

theorem bubK_go {l : List KT} {j : Nat} (h : gtS (ktAt l j).key (ktAt l (j + 1)).key = true) : bubK l (j + 1) = bubK ((l.set j (ktAt l (j + 1))).set (j + 1) (ktAt l j)) j := by
  rw [bubK, if_pos h]
theorem bubK_stop {l : List KT} {j : Nat} (h : gtS (ktAt l j).key (ktAt l (j + 1)).key = false) : bubK l (j + 1) = l := by
  rw [bubK, if_neg (by rw [h]; simp)]

theorem bubK_len (l : List KT) (j : Nat) : (bubK l j).length = l.length := by
  induction j generalizing l with
  | zero => rfl
  | succ j ih =>
    rw [bubK]
    split
    · rw [ih]; simp
    · rfl

/-- The first k are sorted. -/
def srtK (l : List KT) : Nat → List KT
  | 0 => l
  | k + 1 => bubK (srtK l k) k

theorem srtK_len (l : List KT) (k : Nat) : (srtK l k).length = l.length := by
  induction k with
  | zero => rfl
  | succ k ih => rw [srtK, bubK_len, ih]

theorem ktAt_app {l r : List KT} {k : Nat} (h : k < l.length) : ktAt (l ++ r) k = ktAt l k := by
  unfold ktAt; rw [List.getElem?_append_left h]

theorem bubK_app {l r : List KT} {j : Nat} (h : j < l.length) : bubK (l ++ r) j = bubK l j ++ r := by
  induction j generalizing l with
  | zero => rfl
  | succ j ih =>
    rw [bubK, bubK, ktAt_app (by omega), ktAt_app h]
    split
    · rw [List.set_append_left _ _ (by omega), List.set_append_left _ _ (by simpa using h), ih (by simp; omega)]
    · rfl

/-- One after the other, each to its place. -/
def insK (l : List KT) : Nat → List KT
  | 0 => []
  | k + 1 => bubK (insK l k ++ [ktAt l k]) k

theorem insK_len (l : List KT) (k : Nat) : (insK l k).length = k := by
  induction k with
  | zero => rfl
  | succ k ih => rw [insK, bubK_len]; simp [ih]

theorem srtK_ins {l : List KT} {k : Nat} (h : k ≤ l.length) : srtK l k = insK l k ++ l.drop k := by
  induction k with
  | zero => rfl
  | succ k ih =>
    have hk : k < l.length := by omega
    have hd : l.drop k = ktAt l k :: l.drop (k + 1) := by
      rw [List.drop_eq_getElem_cons hk]
      unfold ktAt
      rw [List.getElem?_eq_getElem hk]
      rfl
    rw [srtK, ih (by omega), insK, hd, show insK l k ++ ktAt l k :: l.drop (k + 1) = (insK l k ++ [ktAt l k]) ++ l.drop (k + 1) by simp, bubK_app (by simp [insK_len])]

theorem srtK_all (l : List KT) : srtK l l.length = insK l l.length := by
  rw [srtK_ins (Nat.le_refl _)]; simp

/-- A place that is free: what stands there is not looked at. -/
theorem hole_go {a : List KT} {x : KT} {j : Nat} (hj : j + 1 < a.length) (h : gtS (ktAt a j).key x.key = true) : bubK (a.set (j + 1) x) (j + 1) = bubK ((a.set (j + 1) (ktAt a j)).set j x) j := by
  have h1 : ktAt (a.set (j + 1) x) j = ktAt a j := by unfold ktAt; rw [List.getElem?_set_ne (by omega)]
  have h2 : ktAt (a.set (j + 1) x) (j + 1) = x := by unfold ktAt; rw [List.getElem?_set_self hj]; rfl
  rw [bubK_go (by rw [h1, h2]; exact h), h1, h2]
  congr 1
  rw [List.set_comm _ _ (by omega), List.set_set, List.set_comm _ _ (by omega)]

theorem hole_stop {a : List KT} {x : KT} {j : Nat} (hj : j + 1 < a.length) (h : gtS (ktAt a j).key x.key = false) : bubK (a.set (j + 1) x) (j + 1) = a.set (j + 1) x := by
  have h1 : ktAt (a.set (j + 1) x) j = ktAt a j := by unfold ktAt; rw [List.getElem?_set_ne (by omega)]
  have h2 : ktAt (a.set (j + 1) x) (j + 1) = x := by unfold ktAt; rw [List.getElem?_set_self hj]; rfl
  exact bubK_stop (by rw [h1, h2]; exact h)
end Go.Proofs.YtbgomhgohphglaaDoor
