/- Pages that are read one after the other, without memory. -/
import Derived.Test.YtbgomhgohphglaaDoorPRead6
namespace Go.Proofs.YtbgomhgohphglaaDoor

/-- The key of the last row. -/
def endK (l : List Rw) : ByteArray := (rwAt l (l.length - 1)).key
/-- The key of the first. -/
def begK (l : List Rw) : ByteArray := (rwAt l 0).key

/-- Whether a page may stand behind those that are read. -/
def okNext (acc : List (List Rw)) (s : ByteArray) : Bool :=
  decide (codeP s = 0) && (match acc.getLast? with | none => true | some l => ltK (endK l) (begK (readP s)))

/-- The pages behind those that are read. -/
def bkF : List (List Rw) → List ByteArray → Option (List (List Rw))
  | acc, [] => some acc
  | acc, s :: ss => if okNext acc s then bkF (acc ++ [readP s]) ss else none

/-- The book of pages. -/
def bookF (ss : List ByteArray) : Option (List (List Rw)) := if ss.length ≤ 40 then bkF [] ss else none

theorem bkF_yes {acc : List (List Rw)} {ss : List ByteArray} {k : Nat} {s : ByteArray} (h : ss[k]? = some s) (ho : okNext acc s = true) : bkF acc (ss.drop k) = bkF (acc ++ [readP s]) (ss.drop (k + 1)) := by
  have hd : ss.drop k = s :: ss.drop (k + 1) := by
    obtain ⟨hl, rfl⟩ := List.getElem?_eq_some_iff.1 h
    exact List.drop_eq_getElem_cons hl
  rw [hd]
  simp [bkF, ho]

theorem bkF_no {acc : List (List Rw)} {ss : List ByteArray} {k : Nat} {s : ByteArray} (h : ss[k]? = some s) (ho : okNext acc s = false) : bkF acc (ss.drop k) = none := by
  have hd : ss.drop k = s :: ss.drop (k + 1) := by
    obtain ⟨hl, rfl⟩ := List.getElem?_eq_some_iff.1 h
    exact List.drop_eq_getElem_cons hl
  rw [hd]
  simp [bkF, ho]

/-- A page that is read has a row. -/
theorem readP_some {s : ByteArray} (h : codeP s = 0) : 0 < (readP s).length := by
  unfold codeP at h
  unfold readP
  cases h1 : lenOk s
  · rw [h1] at h; simp at h
  cases h2 : markOk s
  · rw [h1, h2] at h; simp at h
  rw [h1, h2] at h
  simp only [if_true, Bool.and_self] at h ⊢
  cases h3 : readL s with
  | none => rw [h3] at h; simp at h
  | some l =>
    unfold readL at h3
    split at h3
    · cases h3
    · rename_i l' _
      split at h3
      · rename_i hp
        obtain rfl := Option.some.inj h3
        unfold isPage at hp
        simp only [Bool.and_eq_true, Bool.not_eq_true', beq_eq_false_iff_ne, ne_eq] at hp
        show 0 < l'.length
        omega
      · cases h3

/-- How long the shortest page is, of the first k. -/
def leastF (ss : List ByteArray) : Nat → Nat
  | 0 => 0
  | k + 1 => match ss[k]? with
    | none => leastF ss k
    | some s => if k = 0 ∨ s.size < leastF ss k then s.size else leastF ss k

theorem leastF_le (ss : List ByteArray) (B : Nat) (h : ∀ s ∈ ss, s.size ≤ B) : ∀ k, leastF ss k ≤ B
  | 0 => Nat.zero_le _
  | k + 1 => by
    unfold leastF
    split
    · exact leastF_le ss B h k
    · rename_i s hs
      split
      · exact h s (List.mem_of_getElem? hs)
      · exact leastF_le ss B h k

/-- What is read of the first k pages. -/
def accK (ss : List ByteArray) (k : Nat) : List (List Rw) := (ss.take k).map readP

theorem accK_len {ss : List ByteArray} {k : Nat} (h : k ≤ ss.length) : (accK ss k).length = k := by simp [accK, h]

theorem accK_succ {ss : List ByteArray} {k : Nat} {s : ByteArray} (h : ss[k]? = some s) : accK ss k ++ [readP s] = accK ss (k + 1) := by
  unfold accK
  rw [List.take_add_one, h]
  simp

theorem accK_at {ss : List ByteArray} {k j : Nat} {s : ByteArray} (h : ss[j]? = some s) (hj : j < k) : (accK ss k)[j]? = some (readP s) := by
  unfold accK
  rw [List.getElem?_map, List.getElem?_take_of_lt hj, h]
  rfl

theorem okNext_zero {ss : List ByteArray} {s : ByteArray} : okNext (accK ss 0) s = decide (codeP s = 0) := by simp [okNext, accK]

theorem okNext_succ {ss : List ByteArray} {j : Nat} {y s : ByteArray} (h : ss[j]? = some y) : okNext (accK ss (j + 1)) s = (decide (codeP s = 0) && ltK (endK (readP y)) (begK (readP s))) := by
  unfold okNext
  rw [← accK_succ h]
  simp

theorem bkF_end (ss : List ByteArray) (acc : List (List Rw)) : bkF acc (ss.drop ss.length) = some acc := by simp [bkF]

theorem endK_at {l : List Rw} {x : Rw} (h : l[l.length - 1]? = some x) : endK l = x.key := by unfold endK rwAt; rw [h]; rfl
theorem begK_at {l : List Rw} {x : Rw} (h : l[0]? = some x) : begK l = x.key := by unfold begK rwAt; rw [h]; rfl

theorem leastF_zero {ss : List ByteArray} {s : ByteArray} (h : ss[0]? = some s) : leastF ss (0 + 1) = s.size := by simp [leastF, h]
theorem leastF_yes {ss : List ByteArray} {k : Nat} {s : ByteArray} (h : ss[k]? = some s) (hs : s.size < leastF ss k) : leastF ss (k + 1) = s.size := by simp [leastF, h, hs]
theorem leastF_no {ss : List ByteArray} {k : Nat} {s : ByteArray} (h : ss[k]? = some s) (hk : k ≠ 0) (hs : ¬ s.size < leastF ss k) : leastF ss (k + 1) = leastF ss k := by simp [leastF, h, hs, hk]

/-- What LeastFill answers. -/
def leastA (ss : List ByteArray) : Int := if (bookF ss).isSome then (leastF ss ss.length : Int) else 0
end Go.Proofs.YtbgomhgohphglaaDoor
