/- Pages that are read, wherever their rows lie. -/
import Derived.Test.YtbgomhgohphglaaDoorNestK
import Derived.Test.YtbgomhgohphglaaDoorPPage6
import Derived.Test.YtbgomhgohphglaaDoorStrs
namespace Go.Proofs.YtbgomhgohphglaaDoor
open Go.RowKit

/-- A row of slices of Rows, wherever they lie. -/
def BkV (w : World) (v : Value) (gs : List (List Rw)) : Prop :=
  ∃ a c, v = .slice a gs.length c ∧ ∀ (k : Nat) (g : List Rw), gs[k]? = some g → ∃ b o ax cx, a = some ⟨b, o, none⟩ ∧ w.cell? ⟨b, o + k, none⟩ = some (.slice ax g.length cx) ∧ SlRw w ax g

theorem BkV.below {w w' : World} {B : Nat} {v : Value} {gs : List (List Rw)} (h : BkV w v gs) (hb : Below B w w') (hB : w.heap.size ≤ B) : BkV w' v gs := by
  obtain ⟨a, c, rfl, h⟩ := h
  refine ⟨a, c, rfl, fun k g hg => ?_⟩
  obtain ⟨b, o, ax, cx, h1, h2, h3⟩ := h k g hg
  exact ⟨b, o, ax, cx, h1, (hb.cell (Nat.lt_of_lt_of_le (rw_cell_lt h2) hB)).trans h2, h3.below hb hB⟩

theorem NestR.bk {w : World} {lo hi : Nat} {v : Value} {gs : List (List Rw)} {vs : List Value} (h : NestR w lo hi v gs vs) : BkV w v gs := by
  obtain ⟨a, c, rfl, q⟩ := h.form
  refine ⟨a, c, rfl, fun k g hg => ?_⟩
  obtain ⟨x, hx, hI, _⟩ := h.ins k g hg
  obtain ⟨b, h1, _, _, h2, _⟩ := q k x hx
  obtain ⟨ax, cx, rfl⟩ := rw_form hI
  exact ⟨b, 0, ax, cx, h1, by simpa using h2, rws_sl hI⟩

/-- The bytes of the pages, where each may be one and they are at most 40. -/
def bytF (gs : List (List Rw)) : Option (List ByteArray) := if gs.length ≤ 40 ∧ (gs.all okPB) = true then some (gs.map pbT) else none

theorem bytF_long {gs : List (List Rw)} (h : ¬ gs.length ≤ 40) : bytF gs = none := by unfold bytF; rw [if_neg (fun c => h c.1)]
theorem bytF_bad {gs : List (List Rw)} {k : Nat} {g : List Rw} (hg : gs[k]? = some g) (h : okPB g = false) : bytF gs = none := by
  unfold bytF
  rw [if_neg]
  rintro ⟨_, c⟩
  rw [List.all_eq_true] at c
  rw [c g (List.mem_of_getElem? hg)] at h
  cases h
theorem bytF_all {gs : List (List Rw)} (h : gs.length ≤ 40) (ha : ∀ (j : Nat) (g : List Rw), gs[j]? = some g → okPB g = true) : bytF gs = some (gs.map pbT) := by
  have h2 : gs.all okPB = true := by
    rw [List.all_eq_true]
    intro g hg
    obtain ⟨i, hi⟩ := List.getElem?_of_mem hg
    exact ha i g hi
  unfold bytF
  rw [if_pos ⟨h, h2⟩]

theorem pbT_size (g : List Rw) : (pbT g).size ≤ 300 := by
  unfold pbT
  split
  · rename_i h
    unfold okPB at h
    simp only [Bool.and_eq_true, decide_eq_true_eq] at h
    rw [byT_size]
    exact h.2
  · exact Nat.zero_le _
end Go.Proofs.YtbgomhgohphglaaDoor
