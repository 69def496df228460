/- First weights of a text that grows piece by piece, without memory. -/
import Derived.Test.YtinjldagfhbioaaGreatDoorPFind1
import Derived.Test.YtinjldagfhbioaaGreatDoorPKey2
namespace Go.Proofs.YtinjldagfhbioaaGreatDoor

/-- The first weight of an elem, as it counts. -/
def fw (sh : Bool) (e : El) : Int := if sh = true ∧ e.varies = true then 0 else e.first
def firstsE (sh : Bool) (els : List El) : List Int := els.flatMap fun e => ifNot (fw sh e)

theorem firstsE_app (sh : Bool) (a b : List El) : firstsE sh (a ++ b) = firstsE sh a ++ firstsE sh b := by unfold firstsE; rw [List.flatMap_append]

theorem four1_fw (sh b : Bool) (e : El) : (four1 sh b e).2.1.first = fw sh e := by
  unfold four1 fw
  cases sh
  · simp
  · cases hv : e.varies
    · simp
      split
      · rename_i h; exact h.1.symm
      · rfl
    · simp [elZ]

theorem fourS_firsts (sh : Bool) (els : List El) : ∀ k, k ≤ els.length → (fourS sh els k).2.1.map El.first = (els.take k).map (fw sh) := by
  intro k
  induction k with
  | zero => intro _; rfl
  | succ k ih =>
    intro hk
    obtain ⟨e, he⟩ : ∃ e, els[k]? = some e := ⟨_, List.getElem?_eq_getElem (by omega)⟩
    have h : fourS sh els k = ((fourS sh els k).1, (fourS sh els k).2.1, (fourS sh els k).2.2) := rfl
    rw [fourS_succ he h, List.take_add_one, he]
    show ((fourS sh els k).2.1 ++ [(four1 sh (fourS sh els k).2.2 e).2.1]).map El.first = _
    rw [List.map_append, ih (by omega)]
    simp [four1_fw]

theorem wtsK_firsts (xs : List El) (fs : List Int) : ∀ k, k ≤ xs.length → wtsK 1 xs fs k = (xs.take k).flatMap fun e => ifNot e.first := by
  intro k
  induction k with
  | zero => intro _; rfl
  | succ k ih =>
    intro hk
    obtain ⟨e, he⟩ : ∃ e, xs[k]? = some e := ⟨_, List.getElem?_eq_getElem (by omega)⟩
    rw [wtsK, ih (by omega), List.take_add_one, he, List.flatMap_append]
    have : elAt xs k = e := by unfold elAt; rw [he]; rfl
    rw [this]
    simp [wtL]

theorem firstsB_eq (es : List Ent) (sh : Bool) (l : List Int) : firstsB es sh l = firstsE sh (elems4 es l) := by
  unfold firstsB wts firstsE
  rw [wtsK_firsts _ _ _ (Nat.le_refl _), List.take_length]
  have h := fourS_firsts sh (elems4 es l) (elems4 es l).length (Nat.le_refl _)
  rw [List.take_length] at h
  have e1 : (counted sh (elems4 es l)).flatMap (fun e => ifNot e.first) = ((counted sh (elems4 es l)).map El.first).flatMap ifNot := by rw [List.flatMap_map]
  have e2 : (elems4 es l).flatMap (fun e => ifNot (fw sh e)) = ((elems4 es l).map (fw sh)).flatMap ifNot := by rw [List.flatMap_map]
  rw [e1, e2]
  congr 1

/-- Nothing of what comes goes into what stands. -/
def Sta (q : List Int) : Prop := q = [] ∨ cls (at0 q 0) = 0

theorem markFrom_app (es : List Ent) (run rest : List Int) {q : List Int} (hq : Sta q) : ∀ (ms : List Int) (k : Nat), k + ms.length ≤ rest.length → markFrom es run (rest ++ q) (ms ++ q) k = markFrom es run rest ms k := by
  intro ms
  induction ms with
  | nil =>
    intro k _
    rcases hq with rfl | hq
    · rfl
    · cases q with
      | nil => rfl
      | cons y m =>
        show markFrom es run (rest ++ y :: m) (y :: m) k = -1
        have hy : cls y = 0 := hq
        rw [markFrom, if_pos hy]
  | cons x ms ih =>
    intro k hk
    have hb : ∀ c, blkB (rest ++ q) k c = blkB rest k c := fun c => by
      unfold blkB
      rw [List.take_append_of_le_length (by simp at hk; omega)]
    show markFrom es run (rest ++ q) (x :: (ms ++ q)) k = markFrom es run rest (x :: ms) k
    rw [markFrom, markFrom, hb, ih (k + 1) (by simp at hk; omega)]

theorem markAt_app (es : List Ent) (run rest : List Int) {q : List Int} (hq : Sta q) : markAt es run (rest ++ q) = markAt es run rest := markFrom_app es run rest hq rest 0 (by omega)

theorem grab_app (es : List Ent) {q : List Int} (hq : Sta q) : ∀ (n : Nat) (run rest : List Int), rest.length = n → grab es run (rest ++ q) = ((grab es run rest).1, (grab es run rest).2 ++ q) := by
  intro n
  induction n with
  | zero =>
    intro run rest hn
    rcases mark_cases es run rest with h | ⟨j, hj, _⟩
    · rw [grab_stop h, grab_stop (by rw [markAt_app es run rest hq]; exact h)]
    · omega
  | succ n ih =>
    intro run rest hn
    rcases mark_cases es run rest with h | ⟨j, hj, h⟩
    · rw [grab_stop h, grab_stop (by rw [markAt_app es run rest hq]; exact h)]
    · have e : at0 (rest ++ q) j = at0 rest j := at0_left rest q j hj
      rw [grab_go hj h, grab_go (rest := rest ++ q) (k := j) (by rw [List.length_append]; omega) (by rw [markAt_app es run rest hq]; exact h), e, List.eraseIdx_append_of_lt_length hj]
      exact ih _ _ (by rw [List.length_eraseIdx_of_lt hj]; omega)

theorem runN_app (es : List Ent) {l : List Int} (q : List Int) (h : 4 ≤ l.length) : runN es (l ++ q) = runN es l := by
  have hh : ∀ k, k ≤ 4 → hitN es (l ++ q) k = hitN es l k := fun k hk => by
    unfold hitN
    rw [List.take_append_of_le_length (by omega), decide_eq_true (show k ≤ l.length by omega), decide_eq_true (show k ≤ (l ++ q).length by rw [List.length_append]; omega)]
  unfold runN
  rw [hh 4 (by omega), hh 3 (by omega), hh 2 (by omega)]

/-- With four runes or more a run is whole. -/
theorem take4_app (es : List Ent) {l q : List Int} (h : 4 ≤ l.length) (hq : Sta q) : take4 es (l ++ q) = ((take4 es l).1, (take4 es l).2 ++ q) := by
  have hb := runN_bd (es := es) (l := l) (by omega)
  unfold take4
  rw [runN_app es q h, List.take_append_of_le_length (by omega), List.drop_append_of_le_length (by omega)]
  exact grab_app es hq _ _ _ rfl

/-- The first weights of whole runs, and the runes that are left. -/
def setF (es : List Ent) (sh : Bool) : Nat → List Int → List Int × List Int
  | 0, l => ([], l)
  | f + 1, l => if 4 ≤ l.length then (firstsE sh (elsOf es (take4 es l).1) ++ (setF es sh f (take4 es l).2).1, (setF es sh f (take4 es l).2).2) else ([], l)

theorem setF_spec (es : List Ent) (sh : Bool) {q : List Int} (hq : Sta q) : ∀ (f : Nat) (l : List Int), firstsB es sh (l ++ q) = (setF es sh f l).1 ++ firstsB es sh ((setF es sh f l).2 ++ q) := by
  intro f
  induction f with
  | zero => intro l; rfl
  | succ f ih =>
    intro l
    rw [setF]
    split
    · rename_i h
      rw [firstsB_eq, elems4_step (by rw [List.length_append]; omega), take4_app es h hq, firstsE_app, ← firstsB_eq, ih (take4 es l).2, List.append_assoc]
    · rfl

theorem setF_few (es : List Ent) (sh : Bool) : ∀ (f : Nat) (l : List Int), l.length ≤ f → (setF es sh f l).2.length ≤ 3 := by
  intro f
  induction f with
  | zero => intro l h; show l.length ≤ 3; omega
  | succ f ih =>
    intro l h
    rw [setF]
    split
    · have := take4_kept (es := es) (l := l) (by omega)
      exact ih _ (by omega)
    · show l.length ≤ 3
      omega

/-- A stretch that has grown by a piece. -/
def growS (es : List Ent) (sh : Bool) (st rest piece : List Int) : List Int × List Int := (st ++ (setF es sh (rest ++ piece).length (rest ++ piece)).1, (setF es sh (rest ++ piece).length (rest ++ piece)).2)

/-- What a stretch knows of its runes. -/
def Knows (es : List Ent) (sh : Bool) (C st rest : List Int) : Prop := ∀ q, Sta q → firstsB es sh (C ++ q) = st ++ firstsB es sh (rest ++ q)

theorem knows_first (es : List Ent) (sh : Bool) (P : List Int) : Knows es sh P (growS es sh [] [] P).1 (growS es sh [] [] P).2 := by
  intro q hq
  unfold growS
  rw [List.nil_append, List.nil_append]
  exact setF_spec es sh hq P.length P

theorem Knows.grow {es : List Ent} {sh : Bool} {C st rest P : List Int} (h : Knows es sh C st rest) (hP : Sta P) (hne : P ≠ []) : Knows es sh (C ++ P) (growS es sh st rest P).1 (growS es sh st rest P).2 := by
  intro q hq
  have hPq : Sta (P ++ q) := by
    rcases hP with h | h
    · exact absurd h hne
    · refine .inr ?_
      cases P with
      | nil => exact absurd rfl hne
      | cons y m => exact h
  have h1 := h (P ++ q) hPq
  have h2 := setF_spec es sh hq (rest ++ P).length (rest ++ P)
  unfold growS
  rw [List.append_assoc, h1, ← List.append_assoc rest P q, h2, List.append_assoc]

/-- The first weights of a stretch as a text that ends here. -/
theorem Knows.firsts {es : List Ent} {sh : Bool} {C st rest : List Int} (h : Knows es sh C st rest) : firstsB es sh C = st ++ firstsB es sh rest := by
  have := h [] (.inl rfl)
  simpa using this

/-- What is settled stands ahead of all that the stretch may grow to. -/
theorem Knows.ahead {es : List Ent} {sh : Bool} {C st rest q want : List Int} (h : Knows es sh C st rest) (hq : Sta q) (hw : firstsB es sh (C ++ q) = want) : want.take st.length = st := by
  rw [← hw, h q hq, List.take_left']
  rfl
end Go.Proofs.YtinjldagfhbioaaGreatDoor
