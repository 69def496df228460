/- Reading a page, without memory. -/
import Derived.Test.YtbgomhgohphglaaDoorPPage6
namespace Go.Proofs.YtbgomhgohphglaaDoor

/-- The numbers at the head of a row. -/
def hd (t : ByteArray) (i : Nat) : Nat := (bAt t i).toNat

theorem hd_lt (t : ByteArray) (i : Nat) : hd t i < 256 := (bAt t i).toNat_lt

/-- Whether a row stands at the front of what is left, behind one with key p. -/
def okRow (p t : ByteArray) : Bool := decide (4 ≤ t.size) && decide (hd t 0 ≤ p.size) && decide (4 + hd t 1 + hd t 2 + hd t 3 ≤ t.size)

/-- That row. -/
def rowOf (p t : ByteArray) : Rw := ⟨p.extract 0 (hd t 0) ++ t.extract 4 (4 + hd t 1), t.extract (4 + hd t 1) (4 + hd t 1 + hd t 2), t.extract (4 + hd t 1 + hd t 2) (4 + hd t 1 + hd t 2 + hd t 3)⟩
def restOf (t : ByteArray) : ByteArray := t.extract (4 + hd t 1 + hd t 2 + hd t 3) t.size

/-- The rows that a page says it has. -/
def rdF : Nat → ByteArray → ByteArray → Option (List Rw)
  | 0, _, _ => some []
  | k + 1, p, t => if okRow p t then (rdF k (rowOf p t).key (restOf t)).map (rowOf p t :: ·) else none

theorem ext_size (s : ByteArray) {a q : Nat} (h : q ≤ s.size) : (s.extract a q).size = q - a := by simp [ByteArray.size_extract]; omega

theorem ext_data (s : ByteArray) (a q : Nat) : (s.extract a q).data = s.data.extract a q := by simp

theorem ext_ext (s : ByteArray) {a q i j : Nat} (_hq : q ≤ s.size) (hj : a + j ≤ q) : (s.extract a q).extract i j = s.extract (a + i) (a + j) := by
  apply ByteArray.ext
  rw [ext_data, ext_data, ext_data, Array.extract_extract]
  congr 1
  omega

theorem bAt_ext (s : ByteArray) {a q i : Nat} (hq : q ≤ s.size) (hi : a + i < q) : bAt (s.extract a q) i = bAt s (a + i) := by
  unfold bAt
  rw [ext_data]
  have hs : s.data.size = s.size := rfl
  have h1 : i < (s.data.extract a q).size := by rw [Array.size_extract]; omega
  have h2 : a + i < s.data.size := by omega
  simp only [List.getD, Array.getElem?_toList, Array.getElem?_eq_getElem h1, Array.getElem?_eq_getElem h2, Array.getElem_extract]

theorem okRow_parts {p t : ByteArray} (h : okRow p t = true) : 4 ≤ t.size ∧ hd t 0 ≤ p.size ∧ 4 + hd t 1 + hd t 2 + hd t 3 ≤ t.size := by
  simp [okRow] at h
  exact ⟨h.1.1, h.1.2, h.2⟩

theorem rowOf_sizes {p t : ByteArray} (h : okRow p t = true) : (rowOf p t).key.size = hd t 0 + hd t 1 ∧ (rowOf p t).text.size = hd t 2 ∧ (rowOf p t).val.size = hd t 3 := by
  obtain ⟨h1, h2, h3⟩ := okRow_parts h
  refine ⟨?_, ?_, ?_⟩
  · show (p.extract 0 (hd t 0) ++ t.extract 4 (4 + hd t 1)).size = _
    rw [ByteArray.size_append, ext_size p h2, ext_size t (by omega)]
    omega
  · show (t.extract _ _).size = _
    rw [ext_size t (by omega)]; omega
  · show (t.extract _ _).size = _
    rw [ext_size t (by omega)]; omega

theorem restOf_size {p t : ByteArray} (h : okRow p t = true) : (restOf t).size + 4 ≤ t.size := by
  obtain ⟨h1, h2, h3⟩ := okRow_parts h
  unfold restOf
  rw [ext_size t (Nat.le_refl _)]
  omega

/-- What is left behind the head, the key, the text. -/
def lf1 (t : ByteArray) : ByteArray := t.extract 4 t.size
def lf2 (t : ByteArray) : ByteArray := (lf1 t).extract (hd t 1) (lf1 t).size
def lf3 (t : ByteArray) : ByteArray := (lf2 t).extract (hd t 2) (lf2 t).size

theorem ext_tail (t : ByteArray) {a k : Nat} (ha : a + k ≤ t.size) : (t.extract a t.size).extract k (t.extract a t.size).size = t.extract (a + k) t.size := by
  rw [ext_size t (Nat.le_refl _), ext_ext t (Nat.le_refl _) (by omega)]
  congr 1
  omega

theorem lf1_size {t : ByteArray} : (lf1 t).size = t.size - 4 := ext_size t (Nat.le_refl _)
theorem lf2_eq {t : ByteArray} (h : 4 + hd t 1 ≤ t.size) : lf2 t = t.extract (4 + hd t 1) t.size := ext_tail t h
theorem lf2_size {t : ByteArray} (h : 4 + hd t 1 ≤ t.size) : (lf2 t).size = t.size - (4 + hd t 1) := by rw [lf2_eq h]; exact ext_size t (Nat.le_refl _)
theorem lf3_eq {t : ByteArray} (h : 4 + hd t 1 + hd t 2 ≤ t.size) : lf3 t = t.extract (4 + hd t 1 + hd t 2) t.size := by
  unfold lf3
  rw [lf2_eq (by omega)]
  exact ext_tail t h
theorem lf3_size {t : ByteArray} (h : 4 + hd t 1 + hd t 2 ≤ t.size) : (lf3 t).size = t.size - (4 + hd t 1 + hd t 2) := by rw [lf3_eq h]; exact ext_size t (Nat.le_refl _)

theorem row_parts {p t : ByteArray} (h : okRow p t = true) : rowOf p t = ⟨p.extract 0 (hd t 0) ++ (lf1 t).extract 0 (hd t 1), (lf2 t).extract 0 (hd t 2), (lf3 t).extract 0 (hd t 3)⟩ ∧ restOf t = (lf3 t).extract (hd t 3) (lf3 t).size := by
  obtain ⟨h1, h2, h3⟩ := okRow_parts h
  have e1 : (lf1 t).extract 0 (hd t 1) = t.extract 4 (4 + hd t 1) := ext_ext t (Nat.le_refl _) (by omega)
  have e2 : (lf2 t).extract 0 (hd t 2) = t.extract (4 + hd t 1) (4 + hd t 1 + hd t 2) := by rw [lf2_eq (by omega)]; exact ext_ext t (Nat.le_refl _) (by omega)
  have e3 : (lf3 t).extract 0 (hd t 3) = t.extract (4 + hd t 1 + hd t 2) (4 + hd t 1 + hd t 2 + hd t 3) := by rw [lf3_eq (by omega)]; exact ext_ext t (Nat.le_refl _) (by omega)
  have e4 : (lf3 t).extract (hd t 3) (lf3 t).size = restOf t := by rw [lf3_eq (by omega)]; exact ext_tail t (by omega)
  rw [e1, e2, e3, e4]
  exact ⟨rfl, rfl⟩

/-- What a page of bytes tells. -/
def markOk (s : ByteArray) : Bool := decide (hd s 0 = 80) && decide (hd s 1 = 71)
def isPage (s : ByteArray) (l : List Rw) : Bool := !(l.length == 0) && goodR l && decide (byT (pageI l) = s)
def readL (s : ByteArray) : Option (List Rw) := match rdF (hd s 2) ⟨#[]⟩ (s.extract 3 s.size) with
  | none => none
  | some l => if isPage s l then some l else none
def lenOk (s : ByteArray) : Bool := decide (3 ≤ s.size) && decide (s.size ≤ 300)
def readP (s : ByteArray) : List Rw := if lenOk s && markOk s then (readL s).getD [] else []
def codeP (s : ByteArray) : Int := if lenOk s then (if markOk s then (if (readL s).isSome then 0 else 3) else 2) else 1

theorem pbT_is {s : ByteArray} {l : List Rw} (h3 : 3 ≤ s.size) (h : s.size ≤ 300) : decide (pbT l = s) = isPage s l := by
  unfold pbT isPage
  cases hok : okPB l
  · have h0 : ¬ (⟨#[]⟩ : ByteArray) = s := fun e => by rw [← e] at h3; exact absurd h3 (by decide)
    rw [if_neg (by simp), decide_eq_false h0]
    unfold okPB at hok
    by_cases hs : byT (pageI l) = s
    · have hl : (pageI l).length ≤ 300 := by rw [← byT_size, hs]; exact h
      rw [decide_eq_true hl, Bool.and_true] at hok
      rw [hok, Bool.false_and]
    · rw [decide_eq_false hs, Bool.and_false]
  · rw [if_pos rfl]
    unfold okPB at hok
    rw [Bool.and_eq_true] at hok
    rw [hok.1, Bool.true_and]

theorem readP_len (s : ByteArray) : (readP s).length ≤ 60 := by
  unfold readP
  split
  · unfold readL
    split
    · exact Nat.zero_le _
    · rename_i l h
      split
      · rename_i hp
        unfold isPage at hp
        rw [Bool.and_eq_true, Bool.and_eq_true] at hp
        exact goodR_len hp.1.2
      · exact Nat.zero_le _
  · exact Nat.zero_le _
end Go.Proofs.YtbgomhgohphglaaDoor
