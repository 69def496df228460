/- What PutInPages answers, without memory. -/
import Derived.Test.YticogafoopkflaaDoorPPut6
import Derived.Test.YticogafoopkflaaDoorBkV
namespace Go.Proofs.YticogafoopkflaaDoor

theorem okPB_book {g : List Rw} (h1 : goodR g = true) (h0 : 0 < g.length) : okPB g = decide (lnP g ≤ 300) := by
  have h2 : (g.length == 0) = false := by simp; intro e; rw [e] at h0; simp at h0
  unfold okPB lnP
  rw [h1, h2]
  simp

theorem pbT_pg {g : List Rw} (h : okPB g = true) : pbT g = pgB g := by unfold pbT pgB; rw [if_pos h]

/-- The bytes of a book are its pages. -/
theorem bytF_book {b : List (List Rw)} (hb : Book b) : bytF b = ansG b := by
  have hiff : (b.all okPB = true) ↔ ((b.all fun g => decide (lnP g ≤ 300)) = true) := by
    rw [List.all_eq_true, List.all_eq_true]
    constructor
    · intro h g hg
      have := h g hg
      rw [okPB_book (hb.good g hg).1 (hb.good g hg).2] at this
      exact this
    · intro h g hg
      rw [okPB_book (hb.good g hg).1 (hb.good g hg).2]
      exact h g hg
  unfold bytF ansG
  by_cases h : b.length ≤ 40 ∧ (b.all okPB) = true
  · rw [if_pos h, if_pos ⟨h.1, hiff.1 h.2⟩]
    congr 1
    exact List.map_congr_left fun g hg => pbT_pg (List.all_eq_true.1 h.2 g hg)
  · rw [if_neg h, if_neg (fun c => h ⟨c.1, hiff.2 c.2⟩)]

theorem okPB_one (x : Rw) : okPB [x] = (goodR [x] && decide (lnP [x] ≤ 300)) := by unfold okPB lnP; simp
theorem okPB_sz {x : Rw} (h : okPB [x] = true) : goodR [x] = true ∧ sz1 x = true ∧ lnP [x] ≤ 300 := by
  rw [okPB_one, Bool.and_eq_true, decide_eq_true_eq] at h
  exact ⟨h.1, (goodR_iff.1 h.1).2.1 x (by simp), h.2⟩

/-- What PutInPages answers. -/
def putA (ss : List ByteArray) (x : Rw) : Option (List ByteArray) :=
  match bookF ss with
  | none => none
  | some gs => if okPB [x] = true then (if gs.length = 0 then some [pgB [x]] else if (putG gs x).flatten.length ≤ 60 then ansG (putG gs x) else none) else none

theorem putA_bad {ss : List ByteArray} {x : Rw} (h : bookF ss = none) : putA ss x = none := by unfold putA; rw [h]
theorem putA_no {ss : List ByteArray} {x : Rw} (h : okPB [x] = false) : putA ss x = none := by
  unfold putA
  cases bookF ss with
  | none => rfl
  | some gs => simp [h]
theorem putA_one {ss : List ByteArray} {x : Rw} {gs : List (List Rw)} (h : bookF ss = some gs) (hx : okPB [x] = true) (h0 : gs.length = 0) : putA ss x = some [pgB [x]] := by
  unfold putA
  rw [h]
  simp only []
  rw [if_pos hx, if_pos h0]
theorem putA_full {ss : List ByteArray} {x : Rw} {gs : List (List Rw)} (h : bookF ss = some gs) (hx : okPB [x] = true) (h0 : gs.length ≠ 0) (hf : ¬ (putG gs x).flatten.length ≤ 60) : putA ss x = none := by
  unfold putA
  rw [h]
  simp only []
  rw [if_pos hx, if_neg h0, if_neg hf]
theorem putA_more {ss : List ByteArray} {x : Rw} {gs : List (List Rw)} (h : bookF ss = some gs) (hx : okPB [x] = true) (h0 : gs.length ≠ 0) (hf : (putG gs x).flatten.length ≤ 60) : putA ss x = ansG (putG gs x) := by
  unfold putA
  rw [h]
  simp only []
  rw [if_pos hx, if_neg h0, if_pos hf]

theorem ansG_len (b : List (List Rw)) : ((ansG b).getD []).length ≤ 40 := by
  cases h : ansG b with
  | none => simp
  | some ss =>
    obtain ⟨rfl, h2⟩ := ansG_some h
    simpa using h2

theorem putA_len (ss : List ByteArray) (x : Rw) : ((putA ss x).getD []).length ≤ 40 := by
  unfold putA
  split
  · simp
  · split
    · split
      · simp
      · split
        · exact ansG_len _
        · simp
    · simp

/-- The page that a row is put into, and the parts of it. -/
theorem put_page {gs : List (List Rw)} {x : Rw} (hb : Book gs) (hl : ∀ g ∈ gs, lnP g ≤ 300) (h0 : gs.length ≠ 0) (hx : okPB [x] = true) :
    ∃ l, atP gs x.key < gs.length ∧ gs[atP gs x.key]? = some l ∧ Rise l ∧ 0 < l.length ∧ l.length ≤ 59 ∧ RwB l ∧ RwB (insR l x) ∧ 0 < (insR l x).length ∧ (insR l x).length ≤ 60 ∧ (∀ y ∈ insR l x, lnP [y] ≤ 300) ∧ 0 < (partF (insR l x)).length ∧ (partF (insR l x)).length ≤ 60 ∧ putG gs x = gs.take (atP gs x.key) ++ (partF (insR l x) ++ gs.drop (atP gs x.key + 1)) := by
  obtain ⟨_, hx1, hx2⟩ := okPB_sz hx
  have hal : atP gs x.key < gs.length := by unfold atP; omega
  obtain ⟨l, hl'⟩ : ∃ l, gs[atP gs x.key]? = some l := ⟨_, List.getElem?_eq_getElem hal⟩
  have hlm := List.mem_of_getElem? hl'
  obtain ⟨lg, l0⟩ := hb.good l hlm
  have lr := goodR_rise lg
  have l59 := fit59 lr (hl l hlm)
  have hil := insR_len (x := x) lr
  have hal1 : ∀ y ∈ insR l x, lnP [y] ≤ 300 := fun y hy => by
    rcases insR_mem hy with rfl | hy
    · exact hx2
    · exact alone_fit hy (hl l hlm)
  have hi0 : 0 < (insR l x).length := by unfold insR; rw [List.length_append, List.length_append, List.length_singleton]; omega
  have hRB := goodR_RwB lg
  have hRI : RwB (insR l x) := ⟨by omega, fun y hy => by
    rcases insR_mem hy with rfl | hy
    · unfold sz1 at hx1
      simp only [Bool.and_eq_true, decide_eq_true_eq] at hx1
      omega
    · exact hRB.2 y hy⟩
  have hp0 : 0 < (partF (insR l x)).length := by
    by_cases hf : lnP (insR l x) ≤ 300
    · rw [partF_fit hf]; simp
    · rw [partF_more hf]; simp
  have hpl := partF_len (insR l x) hi0 hal1
  refine ⟨l, hal, hl', lr, l0, l59, hRB, hRI, hi0, by omega, hal1, hp0, by omega, ?_⟩
  unfold putG
  rw [hl']
  rfl

/-- The rows of a book that a row was put into. -/
theorem putG_sz {gs : List (List Rw)} {x : Rw} (hb : Book (putG gs x)) : ∀ g ∈ putG gs x, RwB g ∧ g.length ≤ 60 := fun g hg => ⟨goodR_RwB (hb.good g hg).1, goodR_len (hb.good g hg).1⟩
end Go.Proofs.YticogafoopkflaaDoor
