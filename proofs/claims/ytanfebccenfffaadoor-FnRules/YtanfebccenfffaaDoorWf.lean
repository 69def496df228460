/- The words of a text, one taken off after the other. -/
import Derived.Test.YtanfebccenfffaaDoorSWords
import Derived.Lib.IndexLaws
namespace Go.Proofs.YtanfebccenfffaaDoor

/-- The words of a list of bytes, the one under way beside. -/
def wf : List UInt8 → List UInt8 → List ByteArray
  | [], cur => if cur = [] then [] else [⟨cur.toArray⟩]
  | b :: l, cur => if b = 32 then (if cur = [] then wf l [] else ⟨cur.toArray⟩ :: wf l []) else wf l (cur ++ [b])

/-- The next word, and what is left behind it. -/
def nextL (l : List UInt8) : List UInt8 × List UInt8 :=
  ((l.dropWhile (· == 32)).takeWhile (· != 32), ((l.dropWhile (· == 32)).dropWhile (· != 32)).drop 1)

theorem wf_nil (cur : List UInt8) : wf [] cur = if cur = [] then [] else [⟨cur.toArray⟩] := rfl
theorem wf_cons (b : UInt8) (l cur : List UInt8) : wf (b :: l) cur = if b = 32 then (if cur = [] then wf l [] else ⟨cur.toArray⟩ :: wf l []) else wf l (cur ++ [b]) := rfl

theorem wf_cur (l cur : List UInt8) (h : cur ≠ []) : wf l cur = ⟨(cur ++ l.takeWhile (· != 32)).toArray⟩ :: wf ((l.dropWhile (· != 32)).drop 1) [] := by
  induction l generalizing cur with
  | nil => simp [wf, h]
  | cons b l ih =>
    rw [wf_cons]
    by_cases hb : b = 32
    · simp [hb, h]
    · rw [if_neg hb, ih (cur ++ [b]) (by simp)]
      simp [hb]

theorem wf_next (l : List UInt8) : wf l [] = if (nextL l).1 = [] then [] else ⟨(nextL l).1.toArray⟩ :: wf (nextL l).2 [] := by
  induction l with
  | nil => simp [wf, nextL]
  | cons b l ih =>
    rw [wf_cons]
    by_cases hb : b = 32
    · have e : nextL (b :: l) = nextL l := by simp [nextL, hb]
      rw [if_pos hb, if_pos rfl, e]
      exact ih
    · rw [if_neg hb, wf_cur l ([] ++ [b]) (by simp)]
      simp [nextL, hb]

theorem nextL_left {l : List UInt8} (h : (nextL l).1 = []) : (nextL l).2 = [] := by
  induction l with
  | nil => rfl
  | cons b l ih =>
    by_cases hb : b = 32
    · have e : nextL (b :: l) = nextL l := by simp [nextL, hb]
      rw [e] at h ⊢
      exact ih h
    · simp [nextL, hb] at h

theorem nextL_size (l : List UInt8) : (nextL l).1.length ≤ l.length ∧ (nextL l).2.length ≤ l.length := by
  unfold nextL
  have h1 := (List.dropWhile_sublist (l := l) (p := fun x => x == 32)).length_le
  have h2 := (List.takeWhile_sublist (l := l.dropWhile (fun x => x == 32)) (p := fun x => x != 32)).length_le
  have h3 := (List.dropWhile_sublist (l := l.dropWhile (fun x => x == 32)) (p := fun x => x != 32)).length_le
  simp only [List.length_drop]
  omega

theorem wst_step (s : ByteArray) (k : Nat) (hk : k < s.size) : (wst s k).1 ++ wf (s.data.toList.drop k) (wst s k).2.data.toList = (wst s (k + 1)).1 ++ wf (s.data.toList.drop (k + 1)) (wst s (k + 1)).2.data.toList := by
  have hd : s.data.toList.drop k = s.data.toList[k]'hk :: s.data.toList.drop (k + 1) := List.drop_eq_getElem_cons hk
  have hb : Dec.bt s k = (s.data.toList[k]'hk).toNat := by rw [← Dec.bt_get s k hk]; rfl
  rw [hd]
  generalize hx : s.data.toList[k]'hk = b at *
  conv => rhs; unfold wst
  by_cases c : b = 32
  · have c2 : ¬ (k < s.size ∧ Dec.bt s k ≠ 32) := by rw [hb, c]; simp
    rw [if_neg c2]
    simp only
    rw [wf_cons, if_pos c]
    by_cases z : (wst s k).2.data.toList = []
    · have z2 : (wst s k).2.size = 0 := by show (wst s k).2.data.size = 0; rw [← Array.length_toList, z]; rfl
      rw [if_pos z, if_pos z2]
    · have z2 : ¬ (wst s k).2.size = 0 := fun e => z (List.eq_nil_of_length_eq_zero (by rw [Array.length_toList]; exact e))
      rw [if_neg z, if_neg z2]
      simp
  · have c2 : k < s.size ∧ Dec.bt s k ≠ 32 := ⟨hk, by
      rw [hb]
      intro e
      exact c (UInt8.toNat_inj.1 e)⟩
    rw [if_pos c2]
    simp only
    rw [wf_cons, if_neg c]
    congr 2
    rw [ByteArray.data_append, Array.toList_append, ByteArray.data_extract, Array.toList_extract]
    congr 1
    rw [List.extract_eq_take_drop, hd]
    simp

theorem words_wf (s : ByteArray) : words s = wf s.data.toList [] := by
  have h : ∀ k, k ≤ s.size → wf s.data.toList [] = (wst s k).1 ++ wf (s.data.toList.drop k) (wst s k).2.data.toList := by
    intro k
    induction k with
    | zero => intro _; simp [wst]
    | succ k ih => intro hk; rw [ih (by omega), wst_step s k (by omega)]
  rw [h s.size (Nat.le_refl _)]
  have e : s.data.toList.drop s.size = [] := List.drop_eq_nil_of_le (by simp)
  rw [e]
  unfold words
  conv => lhs; unfold wst
  rw [if_neg (by omega)]
  rw [wf_nil]
  by_cases z : (wst s s.size).2.data.toList = []
  · have z2 : (wst s s.size).2.size = 0 := by show (wst s s.size).2.data.size = 0; rw [← Array.length_toList, z]; rfl
    rw [if_pos z, if_pos z2]; simp
  · have z2 : ¬ (wst s s.size).2.size = 0 := fun e => z (List.eq_nil_of_length_eq_zero (by rw [Array.length_toList]; exact e))
    rw [if_neg z, if_neg z2]

/-- What Index tells of a blank. -/
theorem cut_miss : ∀ (t : List UInt8), Lib.indexByte t 32 = -1 → t.takeWhile (· != 32) = t ∧ (t.dropWhile (· != 32)).drop 1 = []
  | [], _ => by simp
  | b :: t, h => by
    have n := Lib.indexByte_none h
    have hb : b ≠ 32 := fun e => n 0 (by simp [e])
    unfold Lib.indexByte at h
    have hb2 : (b == 32) = false := by simpa using hb
    rw [hb2] at h
    have h2 : Lib.indexByte t 32 = -1 := by
      have g := Lib.indexByte_ge t 32
      by_cases c : Lib.indexByte t 32 = -1
      · exact c
      · exfalso
        have c2 : (Lib.indexByte t 32 == -1) = false := by simpa using c
        rw [c2] at h
        simp at h
        omega
    obtain ⟨i1, i2⟩ := cut_miss t h2
    refine ⟨?_, ?_⟩
    · rw [List.takeWhile_cons]; simp [hb, i1]
    · rw [List.dropWhile_cons]; simp [hb]; simpa using i2

theorem cut_hit : ∀ (t : List UInt8) (i : Nat), Lib.indexByte t 32 = (i : Int) → i < t.length ∧ t.takeWhile (· != 32) = t.take i ∧ (t.dropWhile (· != 32)).drop 1 = t.drop (i + 1)
  | [], i, h => by simp [Lib.indexByte] at h
  | b :: t, i, h => by
    unfold Lib.indexByte at h
    by_cases hb : b = 32
    · have hb2 : (b == 32) = true := by simpa using hb
      rw [hb2] at h
      have : i = 0 := by simpa using h.symm
      subst this
      simp [hb]
    · have hb2 : (b == 32) = false := by simpa using hb
      rw [hb2] at h
      have g := Lib.indexByte_ge t 32
      by_cases c : Lib.indexByte t 32 = -1
      · rw [c] at h; simp at h
      · have c2 : (Lib.indexByte t 32 == -1) = false := by simpa using c
        rw [c2] at h
        simp at h
        obtain ⟨j, rfl⟩ : ∃ j, i = j + 1 := ⟨i - 1, by omega⟩
        obtain ⟨i0, i1, i2⟩ := cut_hit t j (by omega)
        refine ⟨by simp; omega, ?_, ?_⟩
        · rw [List.takeWhile_cons]; simp [hb, i1]
        · rw [List.dropWhile_cons]; simp [hb]; simpa using i2
end Go.Proofs.YtanfebccenfffaaDoor
