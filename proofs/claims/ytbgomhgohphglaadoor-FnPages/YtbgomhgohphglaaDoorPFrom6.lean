/- The rows between two keys, without memory. -/
import Derived.Test.YtbgomhgohphglaaDoorPBook6
namespace Go.Proofs.YtbgomhgohphglaaDoor

/-- Whether a row's key is not below lo and below hi. -/
def inK (lo hi : ByteArray) (x : Rw) : Bool := !ltK x.key lo && ltK x.key hi
def fromL (lo hi : ByteArray) (l : List Rw) : List Rw := l.filter (inK lo hi)
/-- The rows between the two of the first k pages. -/
def fromK (lo hi : ByteArray) (gs : List (List Rw)) (k : Nat) : List Rw := ((gs.take k).map (fromL lo hi)).flatten
/-- What RowsFrom answers. -/
def rowsF (ss : List ByteArray) (lo hi : ByteArray) : List Rw := match bookF ss with
  | none => []
  | some gs => fromK lo hi gs gs.length

theorem bkF_is : ∀ (ss : List ByteArray) (acc gs : List (List Rw)), bkF acc ss = some gs → gs = acc ++ ss.map readP
  | [], acc, gs, h => by simp [bkF] at h; simp [h]
  | s :: ss, acc, gs, h => by
    unfold bkF at h
    split at h
    · rw [bkF_is ss _ gs h]; simp
    · cases h

theorem bookF_is {ss : List ByteArray} {gs : List (List Rw)} (h : bookF ss = some gs) : gs.length ≤ 40 ∧ ∀ l ∈ gs, l.length ≤ 60 := by
  unfold bookF at h
  split at h
  · rename_i hl
    rw [bkF_is ss [] gs h]
    refine ⟨by simpa using hl, fun l hm => ?_⟩
    simp at hm
    obtain ⟨s, _, rfl⟩ := hm
    exact readP_len s
  · cases h

theorem fromK_succ {lo hi : ByteArray} {gs : List (List Rw)} {k : Nat} {l : List Rw} (h : gs[k]? = some l) : fromK lo hi gs k ++ fromL lo hi l = fromK lo hi gs (k + 1) := by
  unfold fromK
  rw [List.take_add_one, h]
  simp

theorem fromL_yes {lo hi : ByteArray} {l : List Rw} {j : Nat} {x : Rw} (h : l[j]? = some x) (hi' : inK lo hi x = true) : fromL lo hi (l.take (j + 1)) = fromL lo hi (l.take j) ++ [x] := by
  unfold fromL
  rw [List.take_add_one, h]
  simp [hi']

theorem fromL_no {lo hi : ByteArray} {l : List Rw} {j : Nat} {x : Rw} (h : l[j]? = some x) (hi' : inK lo hi x = false) : fromL lo hi (l.take (j + 1)) = fromL lo hi (l.take j) := by
  unfold fromL
  rw [List.take_add_one, h]
  simp [hi']

theorem fromK_len (lo hi : ByteArray) (gs : List (List Rw)) (h : ∀ l ∈ gs, l.length ≤ 60) : ∀ k, (fromK lo hi gs k).length ≤ 60 * k
  | 0 => by simp [fromK]
  | k + 1 => by
    have ih := fromK_len lo hi gs h k
    cases hk : gs[k]? with
    | none =>
      have hle : gs.length ≤ k := List.getElem?_eq_none_iff.1 hk
      have : fromK lo hi gs (k + 1) = fromK lo hi gs k := by unfold fromK; rw [List.take_of_length_le (by omega), List.take_of_length_le hle]
      rw [this]
      omega
    | some l =>
      rw [← fromK_succ hk, List.length_append]
      have h1 := h l (List.mem_of_getElem? hk)
      have h2 : (fromL lo hi l).length ≤ l.length := List.length_filter_le _ _
      omega

theorem fromL_len (lo hi : ByteArray) (l : List Rw) (j : Nat) : (fromL lo hi (l.take j)).length ≤ l.length :=
  Nat.le_trans (List.length_filter_le _ _) (by simp; omega)
end Go.Proofs.YtbgomhgohphglaaDoor
