/- What is so of NormalD and NormalC, without memory: taken apart twice is once, put together and taken apart is the same. -/
import Derived.Test.YtinjldagfhbioaaGreatDoorNorm2
namespace Go.Proofs.YtinjldagfhbioaaGreatDoor

/-- One rune put behind a sorted list, the list told from its end: it goes down as far as it must. -/
def insR : List Int → Int → List Int
  | [], r => [r]
  | x :: t, r => if 0 < cls r ∧ cls r < cls x then x :: insR t r else r :: x :: t

theorem insR_go {x r : Int} {t : List Int} (h : 0 < cls r ∧ cls r < cls x) : insR (x :: t) r = x :: insR t r := by simp only [insR, if_pos h]
theorem insR_stop {x r : Int} {t : List Int} (h : ¬ (0 < cls r ∧ cls r < cls x)) : insR (x :: t) r = r :: x :: t := by simp only [insR, if_neg h]

theorem at0_left (l m : List Int) (k : Nat) (h : k < l.length) : at0 (l ++ m) k = at0 l k := by
  simp [at0, List.getElem?_append_left h]
theorem at0_mid (l m : List Int) (x : Int) : at0 (l ++ x :: m) l.length = x := by simp [at0]

theorem bub_append (l m : List Int) (k : Nat) (h : k < l.length) : bub (l ++ m) k = bub l k ++ m := by
  induction k generalizing l with
  | zero => rfl
  | succ k ih =>
    have e1 := at0_left l m (k + 1) h
    have e2 := at0_left l m k (by omega)
    by_cases c : 0 < cls (at0 l (k + 1)) ∧ cls (at0 l (k + 1)) < cls (at0 l k)
    · rw [bub_go l k c, bub_go (l ++ m) k (by rw [e1, e2]; exact c), e1, e2, List.set_append_left _ _ h, List.set_append_left _ _ (by simp; omega)]
      exact ih _ (by simp; omega)
    · rw [bub_stop l k c, bub_stop (l ++ m) k (by rw [e1, e2]; exact c)]

theorem srt_append (l m : List Int) (i : Nat) (h : i ≤ l.length) : srt (l ++ m) i = srt l i ++ m := by
  induction i with
  | zero => rfl
  | succ i ih => rw [srt, ih (by omega), bub_append _ _ _ (by rw [srt_length]; omega)]; rfl

theorem bub_snoc (l : List Int) (r : Int) : bub (l ++ [r]) l.length = (insR l.reverse r).reverse := by
  generalize hn : l.length = n
  induction n generalizing l with
  | zero =>
    obtain rfl : l = [] := List.eq_nil_of_length_eq_zero hn
    rfl
  | succ n ih =>
    obtain ⟨l', x, rfl⟩ : ∃ l' x, l = l' ++ [x] := ⟨l.dropLast, l.getLast (by intro h; rw [h] at hn; simp at hn), (List.dropLast_concat_getLast _).symm⟩
    have hl : l'.length = n := by simpa using hn
    have e1 : at0 (l' ++ [x] ++ [r]) (n + 1) = r := by
      have := at0_mid (l' ++ [x]) [] r
      rw [show (l' ++ [x]).length = n + 1 by simp [hl]] at this
      exact this
    have e2 : at0 (l' ++ [x] ++ [r]) n = x := by
      have := at0_mid l' [r] x
      rw [hl] at this
      rw [List.append_assoc]; exact this
    rw [List.reverse_append]
    by_cases c : 0 < cls r ∧ cls r < cls x
    · rw [bub_go _ _ (by rw [e1, e2]; exact c), e1, e2]
      have e3 : ((l' ++ [x] ++ [r]).set (n + 1) x).set n r = (l' ++ [r]) ++ [x] := by
        rw [List.append_assoc, List.append_assoc]
        subst hl
        rw [List.set_append_right _ _ (by omega), List.set_append_right _ _ (by omega)]
        simp
      rw [e3, bub_append _ _ _ (by simp; omega), ih l' hl]
      show _ = (insR (x :: l'.reverse) r).reverse
      rw [insR_go c]; simp
    · rw [bub_stop _ _ (by rw [e1, e2]; exact c)]
      show _ = (insR (x :: l'.reverse) r).reverse
      rw [insR_stop c]; simp

/-- The sorted list, told from its end. -/
def stk (l : List Int) : List Int := l.foldl insR []

theorem stk_snoc (l : List Int) (r : Int) : stk (l ++ [r]) = insR (stk l) r := by simp [stk, List.foldl_append]
theorem stk_append {l l' : List Int} (h : stk l = stk l') (m : List Int) : stk (l ++ m) = stk (l' ++ m) := by
  unfold stk at *
  rw [List.foldl_append, List.foldl_append, h]

theorem sortM_stk (l : List Int) : sortM l = (stk l).reverse := by
  generalize hn : l.length = n
  induction n generalizing l with
  | zero =>
    obtain rfl : l = [] := List.eq_nil_of_length_eq_zero hn
    rfl
  | succ n ih =>
    obtain ⟨l', x, rfl⟩ : ∃ l' x, l = l' ++ [x] := ⟨l.dropLast, l.getLast (by intro h; rw [h] at hn; simp at hn), (List.dropLast_concat_getLast _).symm⟩
    have hl : l'.length = n := by simpa using hn
    have h1 : sortM (l' ++ [x]) = bub (sortM l' ++ [x]) n := by
      unfold sortM
      rw [List.length_append, List.length_singleton, srt, srt_append _ _ _ (Nat.le_refl _), hl]
    have h2 := bub_snoc (sortM l') x
    rw [sortM_length, hl, ih l' hl, List.reverse_reverse] at h2
    rw [h1, ih l' hl, h2, stk_snoc]

theorem stk_of_sort {l l' : List Int} (h : sortM l = sortM l') : stk l = stk l' := by
  rw [sortM_stk, sortM_stk] at h
  exact List.reverse_inj.1 h

theorem insR_comm {a b : Int} (ha : 0 < cls a) (hb : 0 < cls b) (hne : cls a ≠ cls b) (s : List Int) : insR (insR s a) b = insR (insR s b) a := by
  induction s with
  | nil =>
    show insR [a] b = insR [b] a
    by_cases c : cls b < cls a
    · rw [insR_go ⟨hb, c⟩, insR_stop (by omega)]; rfl
    · rw [insR_stop (by omega), insR_go ⟨ha, by omega⟩]; rfl
  | cons x t ih =>
    by_cases ca : cls a < cls x
    · by_cases cb : cls b < cls x
      · rw [insR_go ⟨ha, ca⟩, insR_go ⟨hb, cb⟩, insR_go ⟨hb, cb⟩, insR_go ⟨ha, ca⟩, ih]
      · rw [insR_go ⟨ha, ca⟩, insR_stop (x := x) (r := b) (by omega), insR_stop (x := x) (r := b) (by omega), insR_go (x := b) ⟨ha, by omega⟩, insR_go ⟨ha, ca⟩]
    · by_cases cb : cls b < cls x
      · rw [insR_go (x := x) (r := b) ⟨hb, cb⟩, insR_stop (x := x) (r := a) (by omega), insR_stop (x := x) (r := a) (by omega), insR_go (x := a) ⟨hb, by omega⟩, insR_go ⟨hb, cb⟩]
      · rw [insR_stop (x := x) (r := a) (by omega), insR_stop (x := x) (r := b) (by omega)]
        by_cases c : cls b < cls a
        · rw [insR_go (x := a) ⟨hb, c⟩, insR_stop (x := x) (r := b) (by omega), insR_stop (x := b) (by omega)]
        · rw [insR_stop (x := a) (by omega), insR_go (x := b) ⟨ha, by omega⟩, insR_stop (x := x) (r := a) (by omega)]

/-- A mark goes past marks of other classes. -/
theorem stk_past (l M : List Int) (r : Int) (hr : 0 < cls r) (hM : ∀ b ∈ M, 0 < cls b ∧ cls b ≠ cls r) : stk (l ++ r :: M) = stk (l ++ M ++ [r]) := by
  induction M generalizing l with
  | nil => simp
  | cons b M ih =>
    have hb := hM b (by simp)
    have h1 : stk (l ++ r :: b :: M) = stk (l ++ [b] ++ r :: M) := by
      have : stk (l ++ [r] ++ [b]) = stk (l ++ [b] ++ [r]) := by
        rw [stk_snoc, stk_snoc, stk_snoc, stk_snoc]
        exact insR_comm hr hb.1 (Ne.symm hb.2) _
      have h2 := stk_append this M
      simpa using h2
    rw [h1, ih (l ++ [b]) (fun c hc => hM c (by simp [hc]))]
    simp

theorem insR_base (T P : List Int) (s r : Int) (hs : cls s = 0) : insR (T ++ s :: P) r = insR (T ++ [s]) r ++ P := by
  induction T with
  | nil =>
    show insR (s :: P) r = insR [s] r ++ P
    rw [insR_stop (by omega), insR_stop (by omega)]; rfl
  | cons x T ih =>
    show insR (x :: (T ++ s :: P)) r = insR (x :: (T ++ [s])) r ++ P
    by_cases c : 0 < cls r ∧ cls r < cls x
    · rw [insR_go c, insR_go c, ih]; rfl
    · rw [insR_stop c, insR_stop c]; simp

theorem insR_form (T : List Int) (s r : Int) (hs : cls s = 0) : ∃ T', insR (T ++ [s]) r = T' ++ [s] := by
  induction T with
  | nil => exact ⟨[r], by show insR [s] r = _; rw [insR_stop (by omega)]; rfl⟩
  | cons x T ih =>
    by_cases c : 0 < cls r ∧ cls r < cls x
    · obtain ⟨T', h⟩ := ih
      exact ⟨x :: T', by show insR (x :: (T ++ [s])) r = _; rw [insR_go c, h]; rfl⟩
    · exact ⟨r :: x :: T, by show insR (x :: (T ++ [s])) r = _; rw [insR_stop c]; rfl⟩

theorem fold_base (u T P : List Int) (s : Int) (hs : cls s = 0) : u.foldl insR (T ++ s :: P) = u.foldl insR (T ++ [s]) ++ P := by
  induction u generalizing T with
  | nil => simp
  | cons r u ih =>
    simp only [List.foldl_cons]
    rw [insR_base T P s r hs]
    obtain ⟨T', h⟩ := insR_form T s r hs
    rw [h, List.append_assoc]
    exact ih T'

/-- What begins with a starter is sorted by itself. -/
theorem stk_front (P u : List Int) (s : Int) (hs : cls s = 0) : stk (P ++ s :: u) = stk (s :: u) ++ stk P := by
  unfold stk
  rw [List.foldl_append]
  simp only [List.foldl_cons]
  have h : ∀ Q : List Int, insR Q s = s :: Q := by
    intro Q
    cases Q with
    | nil => rfl
    | cons x t => exact insR_stop (by omega)
  rw [h, h]
  exact fold_base u [] (List.foldl insR [] P) s hs

theorem mem_insR {x r : Int} {s : List Int} : x ∈ insR s r ↔ x = r ∨ x ∈ s := by
  induction s with
  | nil => simp [insR]
  | cons y t ih =>
    by_cases c : 0 < cls r ∧ cls r < cls y
    · rw [insR_go c]; simp only [List.mem_cons, ih]
      constructor
      · rintro (h | h | h) <;> simp [h]
      · rintro (h | h | h) <;> simp [h]
    · rw [insR_stop c]; simp

theorem mem_fold {x : Int} (l s : List Int) : x ∈ l.foldl insR s ↔ x ∈ l ∨ x ∈ s := by
  induction l generalizing s with
  | nil => simp
  | cons r l ih =>
    simp only [List.foldl_cons, ih, mem_insR, List.mem_cons]
    constructor
    · rintro (h | h | h) <;> simp [h]
    · rintro ((h | h) | h) <;> simp [h]

theorem mem_sortM {x : Int} {l : List Int} : x ∈ sortM l ↔ x ∈ l := by
  rw [sortM_stk, List.mem_reverse]
  have := mem_fold (x := x) l []
  simpa [stk] using this

/-- A sorted list stays. -/
theorem srt_stays (l : List Int) (h : ∀ i, i + 1 < l.length → Adj l i) (k : Nat) (hk : k ≤ l.length) : srt l k = l := by
  induction k with
  | zero => rfl
  | succ k ih =>
    rw [srt, ih (by omega)]
    cases k with
    | zero => rfl
    | succ k =>
      refine bub_stop l k fun c => ?_
      have := h k (by omega) c.1
      omega

theorem sortM_again (l : List Int) : sortM (sortM l) = sortM l :=
  srt_stays _ (fun i hi => sortM_adj l i (by rw [sortM_length] at hi; exact hi)) _ (Nat.le_refl _)

theorem full_leaves (n : Nat) (r : Int) (h : levB n r = true) : ∀ x ∈ full n r, apart x = [x] := by
  induction n generalizing r with
  | zero =>
    intro x hx
    simp [full] at hx
    subst hx
    exact levB_zero h
  | succ n ih =>
    by_cases hl : apart r = [r]
    · rw [full_leaf hl]
      intro x hx
      simp at hx; subst hx; exact hl
    · rw [full_go hl]
      intro x hx
      obtain ⟨y, hy, hx⟩ := List.mem_flatMap.1 hx
      exact ih y (((levB_succ h).resolve_left hl) y hy) x hx

theorem all2_leaf {x : Int} (h : apart x = [x]) : all2 x = [x] := full_leaf h

theorem nD_leaf {zs : List Int} {x : Int} (h : x ∈ nD zs) : apart x = [x] := by
  have h1 : x ∈ apD zs := mem_sortM.1 h
  obtain ⟨y, _, hx⟩ := List.mem_flatMap.1 h1
  exact full_leaves 2 y (lev2 y) x hx

theorem apD_leaves {l : List Int} (h : ∀ x ∈ l, apart x = [x]) : apD l = l := by
  induction l with
  | nil => rfl
  | cons a l ih =>
    show all2 a ++ apD l = a :: l
    rw [all2_leaf (h a (by simp)), ih (fun x hx => h x (by simp [hx]))]; rfl

/-- Taken apart twice is once. -/
theorem nD_nD (zs : List Int) : nD (nD zs) = nD zs := by
  unfold nD
  rw [show apD (sortM (apD zs)) = sortM (apD zs) from apD_leaves (fun x hx => nD_leaf hx)]
  exact sortM_again _

theorem apD_append (l m : List Int) : apD (l ++ m) = apD l ++ apD m := by simp [apD]

theorem cls_big {y : Int} (h : 1000 ≤ y) : cls y = 0 := by
  unfold cls; repeat' split
  all_goals omega

theorem tab_cls : ∀ t ∈ tab, cls (at0 t 0) = 0 ∧ cls (at0 (all2 (at0 t 0)) 0) = 0 := by decide +kernel

/-- What a starter is taken apart into begins with a starter; a mark is a leaf. -/
theorem all2_head (r : Int) : (cls r = 0 → ∃ s u, all2 r = s :: u ∧ cls s = 0) ∧ (0 < cls r → apart r = [r]) := by
  by_cases h1 : r = 8491
  · subst h1
    exact ⟨fun _ => ⟨65, [778], by decide +kernel, by decide⟩, fun h => absurd h (by decide)⟩
  by_cases h2 : 44032 ≤ r ∧ r ≤ 55203
  · have hc : cls r = 0 := cls_big (by omega)
    refine ⟨fun _ => ?_, fun h => by omega⟩
    have hf : all2 r = apart r := syl_full 1 h2.1 h2.2
    rw [hf, syl_apart h2.1 h2.2]
    exact ⟨_, _, rfl, cls_big (by omega)⟩
  · cases hf : tab.find? (fun t => at0 t 0 == r) with
    | none =>
      have ha : apart r = [r] := by unfold apart; rw [if_neg h1, if_neg h2, hf]
      exact ⟨fun h => ⟨r, [], all2_leaf ha, h⟩, fun _ => ha⟩
    | some t =>
      have hm := List.mem_of_find?_eq_some hf
      have hp : at0 t 0 = r := by simpa using List.find?_some hf
      have hc := tab_cls t hm
      rw [hp] at hc
      refine ⟨fun _ => ?_, fun h => by omega⟩
      cases ha : all2 r with
      | nil =>
        have hne : all2 r ≠ [] := by
          intro e
          have h3 : apart r = [at0 t 1, at0 t 2] := by unfold apart; rw [if_neg h1, if_neg h2, hf]
          have h4 : all2 r = (apart r).flatMap (full 1) ∨ all2 r = [r] := by
            by_cases hl : apart r = [r]
            · exact .inr (all2_leaf hl)
            · exact .inl (full_go hl)
          rcases h4 with h4 | h4
          · rw [e, h3] at h4
            have h5 : full 1 (at0 t 1) ≠ [] := by
              intro h6
              unfold full at h6
              split at h6
              · cases h6
              · have h7 := (apart_len (at0 t 1)).1
                cases hq : apart (at0 t 1) with
                | nil => rw [hq] at h7; simp at h7
                | cons z zs => rw [hq] at h6; simp [full] at h6
            simp only [List.flatMap_cons] at h4
            exact h5 (List.append_eq_nil_iff.1 h4.symm).1
          · rw [e] at h4; cases h4
        exact absurd ha hne
      | cons s u =>
        rw [ha] at hc
        exact ⟨s, u, rfl, hc.2⟩

theorem tog_cls {a b x : Int} (h : tog a b = some x) : cls x = 0 := by
  unfold tog at h
  split at h
  · obtain rfl := Option.some.inj h
    exact cls_big (by omega)
  · split at h
    · rename_i c
      obtain rfl := Option.some.inj h
      exact cls_big (by omega)
    · cases hf : tab.find? (fun t => at0 t 1 == a && at0 t 2 == b) with
      | none => rw [hf] at h; cases h
      | some t =>
        rw [hf] at h
        obtain rfl := Option.some.inj h
        exact (tab_cls t (List.mem_of_find?_eq_some hf)).1

/-- What has been put together so far is what has been looked at. -/
def CInv (ds : List Int) (k : Nat) (s : List Int × Nat) : Prop :=
  stk (apD s.1) = stk (ds.take k) ∧ s.2 ≤ s.1.length ∧ (0 < s.2 → cls (at0 s.1 (s.2 - 1)) = 0) ∧ (∀ b ∈ s.1.drop s.2, 0 < cls b) ∧ ∀ x ∈ s.1, goodB x = true

theorem cinv_push {ds : List Int} {k : Nat} {s : List Int × Nat} {r : Int} (h : CInv ds k s) (hk : ds[k]? = some r) (hl : apart r = [r]) (hg : goodB r = true) : CInv ds (k + 1) (push s r) := by
  obtain ⟨h1, h2, h3, h4, h5⟩ := h
  have ht : ds.take (k + 1) = ds.take k ++ [r] := by rw [List.take_add_one, hk]; rfl
  have ha : apD (s.1 ++ [r]) = apD s.1 ++ [r] := by rw [apD_append]; simp [apD, all2_leaf hl]
  have hgood : ∀ x ∈ s.1 ++ [r], goodB x = true := by
    intro x hx
    rcases List.mem_append.1 hx with hx | hx
    · exact h5 x hx
    · simp at hx; subst hx; exact hg
  unfold push
  by_cases c : cls r = 0
  · rw [if_pos c]
    refine ⟨by show stk (apD (s.1 ++ [r])) = _; rw [ha, ht, stk_snoc, stk_snoc, h1], by simp, fun _ => ?_, ?_, hgood⟩
    · show cls (at0 (s.1 ++ [r]) (s.1.length + 1 - 1)) = 0
      rw [Nat.add_sub_cancel, at0_mid]; exact c
    · show ∀ b ∈ (s.1 ++ [r]).drop (s.1.length + 1), _
      rw [List.drop_eq_nil_of_le (by simp)]; simp
  · rw [if_neg c]
    refine ⟨by show stk (apD (s.1 ++ [r])) = _; rw [ha, ht, stk_snoc, stk_snoc, h1], by simp; omega, fun h0 => ?_, ?_, hgood⟩
    · show cls (at0 (s.1 ++ [r]) (s.2 - 1)) = 0
      have h0' : 0 < s.2 := h0
      rw [at0_left _ _ _ (by omega)]; exact h3 h0'
    · show ∀ b ∈ (s.1 ++ [r]).drop s.2, _
      rw [List.drop_append_of_le_length h2]
      intro b hb
      rcases List.mem_append.1 hb with hb | hb
      · exact h4 b hb
      · simp at hb; subst hb; have := (cls_range b).1; omega

theorem split_set (l : List Int) (p : Nat) (x : Int) (h : p < l.length) : l = l.take p ++ at0 l p :: l.drop (p + 1) ∧ l.set p x = l.take p ++ x :: l.drop (p + 1) := by
  have e : at0 l p = l[p] := by simp [at0, h]
  refine ⟨?_, ?_⟩
  · rw [e, List.getElem_cons_drop, List.take_append_drop]
  · exact List.set_eq_take_append_cons_drop (l := l) (i := p) (a := x) |>.trans (by rw [if_pos h])

theorem cinv_merge {ds : List Int} {k : Nat} {s : List Int × Nat} {r x : Int} (h : CInv ds k s) (hk : ds[k]? = some r) (hl : apart r = [r]) (hq : 0 < s.2) (ht : tog (at0 s.1 (s.2 - 1)) r = some x)
    (hM : ∀ b ∈ s.1.drop s.2, cls b < cls r) : CInv ds (k + 1) (s.1.set (s.2 - 1) x, s.2) := by
  obtain ⟨h1, h2, h3, h4, h5⟩ := h
  have htk : ds.take (k + 1) = ds.take k ++ [r] := by rw [List.take_add_one, hk]; rfl
  obtain ⟨e1, e2⟩ := split_set s.1 (s.2 - 1) x (by omega)
  have hp : s.2 - 1 + 1 = s.2 := by omega
  rw [hp] at e1 e2
  have hx := tog_apart ht
  have hy := h3 hq
  generalize at0 s.1 (s.2 - 1) = y at *
  generalize s.1.take (s.2 - 1) = A at *
  have hdrop : (s.1.set (s.2 - 1) x).drop s.2 = s.1.drop s.2 := List.drop_set_of_lt (by omega)
  have hap : apD (s.1.drop s.2) = s.1.drop s.2 := apD_leaves fun b hb => (all2_head b).2 (h4 b hb)
  have hgood : ∀ z ∈ s.1.set (s.2 - 1) x, goodB z = true := by
    intro z hz
    rcases List.mem_or_eq_of_mem_set hz with hz | hz
    · exact h5 z hz
    · subst hz; exact hx.2
  refine ⟨?_, by simp; exact h2, fun _ => ?_, ?_, hgood⟩
  · show stk (apD (s.1.set (s.2 - 1) x)) = _
    obtain ⟨sx, ux, ex, cx⟩ := (all2_head x).1 (tog_cls ht)
    obtain ⟨sy, uy, ey, cy⟩ := (all2_head y).1 hy
    have hr2 : all2 r = [r] := all2_leaf hl
    have hs := stk_of_sort hx.1
    have k1 : stk (apD A ++ all2 x) = stk (apD A ++ (all2 y ++ [r])) := by
      rw [hr2] at hs
      rw [ex, ey] at hs ⊢
      rw [stk_front _ _ _ cx]
      show _ = stk (apD A ++ sy :: (uy ++ [r]))
      rw [stk_front _ _ _ cy]
      exact congrArg (· ++ stk (apD A)) hs
    have k2 := stk_append k1 (s.1.drop s.2)
    have k3 : stk (apD A ++ (all2 y ++ [r]) ++ s.1.drop s.2) = stk (apD A ++ all2 y ++ s.1.drop s.2 ++ [r]) := by
      by_cases hMe : s.1.drop s.2 = []
      · rw [hMe]; simp
      · obtain ⟨b, hb⟩ := List.exists_mem_of_ne_nil _ hMe
        have hrp : 0 < cls r := by have := h4 b hb; have := hM b hb; omega
        have := stk_past (apD A ++ all2 y) (s.1.drop s.2) r hrp (fun b hb => ⟨h4 b hb, by have := hM b hb; omega⟩)
        simpa using this
    rw [e2, apD_append, show apD (x :: s.1.drop s.2) = all2 x ++ s.1.drop s.2 from by show all2 x ++ apD (s.1.drop s.2) = _; rw [hap], ← List.append_assoc, k2, k3, htk, stk_snoc, stk_snoc]
    congr 1
    rw [← h1]
    conv => rhs; rw [e1]
    rw [apD_append, show apD (y :: s.1.drop s.2) = all2 y ++ s.1.drop s.2 from by show all2 y ++ apD (s.1.drop s.2) = _; rw [hap], List.append_assoc]
  · show cls (at0 (s.1.set (s.2 - 1) x) (s.2 - 1)) = 0
    rw [at0_set_eq _ _ _ (by omega)]; exact tog_cls ht
  · show ∀ b ∈ (s.1.set (s.2 - 1) x).drop s.2, _
    rw [hdrop]; exact h4

theorem cinv_all (ds : List Int) (hs : ∀ i, i + 1 < ds.length → Adj ds i) (hl : ∀ x ∈ ds, apart x = [x]) (hg : ∀ x ∈ ds, goodB x = true) (k : Nat) (hk : k ≤ ds.length) : CInv ds k (compS ds k) := by
  induction k with
  | zero => exact ⟨rfl, Nat.le_refl _, fun h => absurd h (by simp [compS]), by simp [compS], by simp [compS]⟩
  | succ k ih =>
    have h0 := ih (by omega)
    obtain ⟨r, hr⟩ : ∃ r, ds[k]? = some r := ⟨_, List.getElem?_eq_getElem (by omega)⟩
    have hm := List.mem_of_getElem? hr
    have hr0 : at0 ds k = r := by simp [at0, hr]
    have hP := cinv_push h0 hr (hl r hm) (hg r hm)
    show CInv ds (k + 1) (stepBy (freeS (compS ds k) (at0 ds k)) (compS ds k) (at0 ds k))
    rw [hr0]
    have hb : k = 0 ∨ Btw (compS ds k) (at0 ds (k - 1)) := (comp_same ds hs k (by omega)).2
    generalize compS ds k = s at *
    unfold stepBy
    split
    · rename_i hf
      split
      · rename_i x hx
        have hf2 := of_decide_eq_true hf
        refine cinv_merge h0 hr (hl r hm) hf2.1 hx fun b hbm => ?_
        rcases hf2.2 with hlen | hlast
        · rw [List.drop_eq_nil_of_le hlen] at hbm; cases hbm
        · by_cases hlen2 : s.1.length ≤ s.2
          · rw [List.drop_eq_nil_of_le hlen2] at hbm; cases hbm
          · obtain ⟨pre, hp⟩ := last_drop s.1 s.2 (by omega)
            rcases hb with rfl | hb
            · have h6 := h0.1
              have hs0 : s.1.drop s.2 = [] := by
                have : s.1 = [] := by
                  cases hq : s.1 with
                  | nil => rfl
                  | cons z zs =>
                    exfalso
                    rw [hq] at h6
                    have h7 : all2 z ≠ [] := fun e => by
                      have h8 := (all2_head z)
                      by_cases hz : cls z = 0
                      · obtain ⟨_, _, e3, _⟩ := h8.1 hz
                        rw [e] at e3; cases e3
                      · have h9 := h8.2 (by have := (cls_range z).1; omega)
                        rw [all2_leaf h9] at e; cases e
                    obtain ⟨y, hy⟩ := List.exists_mem_of_ne_nil _ h7
                    have h10 : y ∈ stk (apD (z :: zs)) := by
                      unfold stk
                      rw [mem_fold]
                      exact .inl (List.mem_append.2 (.inl hy))
                    rw [h6] at h10
                    simp [stk] at h10
                rw [this]; simp
              rw [hs0] at hbm; cases hbm
            · obtain ⟨_, _, _, hpw⟩ := hb
              rw [hp] at hpw hbm
              rw [List.pairwise_append] at hpw
              rcases List.mem_append.1 hbm with hbm | hbm
              · have := hpw.2.2 b hbm _ (List.mem_singleton.2 rfl); omega
              · simp at hbm; subst hbm; exact hlast.2
      · exact hP
    · exact hP

/-- Put together and taken apart is the same. -/
theorem nD_nC {zs : List Int} (hg : ∀ x ∈ zs, goodB x = true) : nD (nC zs) = nD zs ∧ ∀ x ∈ nC zs, goodB x = true := by
  have hs : ∀ i, i + 1 < (nD zs).length → Adj (nD zs) i := fun i hi => sortM_adj (apD zs) i (by rw [nD_len] at hi; exact hi)
  have hgd : ∀ x ∈ nD zs, goodB x = true := fun x hx => apD_good hg x (mem_sortM.1 hx)
  have h := cinv_all (nD zs) hs (fun x hx => nD_leaf hx) hgd (nD zs).length (Nat.le_refl _)
  refine ⟨?_, h.2.2.2.2⟩
  have h1 := h.1
  rw [List.take_length] at h1
  show sortM (apD (compS (nD zs) (nD zs).length).1) = nD zs
  rw [sortM_stk, h1, ← sortM_stk]
  exact sortM_again _

theorem nC_nC {zs : List Int} (hg : ∀ x ∈ zs, goodB x = true) : nC (nC zs) = nC zs := by
  have h := (nD_nC hg).1
  unfold nC at *
  rw [h]
end Go.Proofs.YtinjldagfhbioaaGreatDoor
