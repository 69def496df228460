/- A text in pieces: decoded and taken apart piece by piece, without memory. -/
import Derived.Test.YtinjldagfhbioaaGreatDoorPCut
namespace Go.Proofs.YtinjldagfhbioaaGreatDoor

def decL (x : ByteArray) : List Int := (Dec.decT x.size x).1

theorem decT_more : ∀ (f g : Nat) (t : ByteArray), t.size ≤ f → t.size ≤ g → Dec.decT f t = Dec.decT g t := by
  intro f
  induction f with
  | zero =>
    intro g t h _
    rw [Dec.decT_end _ t (by omega), Dec.decT_end _ t (by omega)]
  | succ f ih =>
    intro g t hf hg
    by_cases h0 : 0 < t.size
    · obtain ⟨g, rfl⟩ : ∃ g', g = g' + 1 := ⟨g - 1, by omega⟩
      have hl := Dec.one_le t h0
      have hz := Dec.size_extract t (Dec.one t).2.1
      simp only [Dec.decT, if_pos h0]
      rw [ih g _ (by omega) (by omega)]
    · rw [Dec.decT_end _ t (by omega), Dec.decT_end _ t (by omega)]

theorem goes_pre {t u : ByteArray} {m : Nat} (hb : ∀ k, k < u.size → k < t.size ∧ Dec.bt u k = Dec.bt t k) : ∀ f k lo hi r, f + k = m + 1 → (Dec.goes t m f k lo hi r).2.1 ≤ u.size → Dec.goes u m f k lo hi r = Dec.goes t m f k lo hi r := by
  intro f
  induction f with
  | zero => intro k lo hi r _ _; simp [Dec.goes]
  | succ f ih =>
    intro k lo hi r h hn
    simp only [Dec.goes] at hn ⊢
    by_cases c : k < t.size ∧ lo ≤ Dec.bt t k ∧ Dec.bt t k ≤ hi
    · rw [if_pos c] at hn ⊢
      have hk : k < u.size := by have := goes_ge t m f (k + 1) 128 191 (r * 64 + Dec.bt t k % 64) (by omega); omega
      rw [(hb k hk).2, if_pos ⟨hk, c.2⟩]
      exact ih (k + 1) 128 191 _ (by omega) hn
    · rw [if_neg c]
      rw [if_neg (fun d => c ⟨(hb k d.1).1, by rw [← (hb k d.1).2]; exact d.2⟩)]

theorem one_pre {t u : ByteArray} (h0 : 0 < u.size) (hb : ∀ k, k < u.size → k < t.size ∧ Dec.bt u k = Dec.bt t k) (hn : (Dec.one t).2.1 ≤ u.size) : Dec.one u = Dec.one t := by
  have e0 := (hb 0 h0).2
  unfold Dec.one at hn ⊢
  rw [e0]
  split
  · rfl
  · rename_i c
    rw [if_neg c] at hn
    exact goes_pre hb _ _ _ _ _ rfl hn

theorem size_part (s : ByteArray) {a q : Nat} (h : q ≤ s.size) : (s.extract a q).size = q - a := by simp [ByteArray.size_extract]; omega

theorem bt_part (s : ByteArray) {a q k : Nat} (h : q ≤ s.size) (hk : k < q - a) : k < (s.extract a s.size).size ∧ Dec.bt (s.extract a q) k = Dec.bt (s.extract a s.size) k := by
  have hz := Dec.size_extract s a
  refine ⟨by omega, ?_⟩
  rw [Dec.bt_extract s a k (by omega)]
  have h1 : k < (s.extract a q).size := by rw [size_part s h]; exact hk
  rw [← Dec.bt_get _ _ h1, ← Dec.bt_get _ _ (by omega : a + k < s.size)]
  simp [ByteArray.getElem_extract]

theorem part_rest (s : ByteArray) {a n q : Nat} (h : q ≤ s.size) : (s.extract a q).extract n (s.extract a q).size = s.extract (a + n) q := by
  ext i
  · simp [ByteArray.size_extract]; omega
  · simp [Nat.add_assoc]

/-- The width of the sequence at a place. -/
def wid (s : ByteArray) (a : Nat) : Nat := (Dec.one (s.extract a s.size)).2.1
def rnAt (s : ByteArray) (a : Nat) : Int := (Dec.one (s.extract a s.size)).1

theorem wid_bd (s : ByteArray) {a : Nat} (h : a < s.size) : 1 ≤ wid s a ∧ a + wid s a ≤ s.size := ⟨(dec_alone s h).2.1, (dec_alone s h).1⟩

theorem decL_step (s : ByteArray) {a q : Nat} (haq : a < q) (hq : q ≤ s.size) (hn : a + wid s a ≤ q) : decL (s.extract a q) = rnAt s a :: decL (s.extract (a + wid s a) q) := by
  have hz := size_part s (a := a) hq
  have ho : Dec.one (s.extract a q) = Dec.one (s.extract a s.size) := one_pre (by omega) (fun k hk => bt_part s hq (by omega)) (by unfold wid at hn; omega)
  unfold decL
  obtain ⟨f, hf⟩ : ∃ f, (s.extract a q).size = f + 1 := ⟨q - a - 1, by omega⟩
  have hw := wid_bd s (show a < s.size by omega)
  have hz2 := size_part s (a := a + wid s a) hq
  rw [hf]
  simp only [Dec.decT]
  rw [if_pos (by omega), ho, part_rest s hq]
  show rnAt s a :: (Dec.decT f (s.extract (a + wid s a) q)).1 = _
  rw [decT_more f (s.extract (a + wid s a) q).size _ (by omega) (Nat.le_refl _)]

/-- A place that is come to, sequence by sequence. -/
inductive Reach (s : ByteArray) : Nat → Nat → Prop
  | refl (a : Nat) : Reach s a a
  | step {a p : Nat} (h : a < s.size) (r : Reach s (a + wid s a) p) : Reach s a p

theorem Reach.le {s : ByteArray} {a p : Nat} (h : Reach s a p) : a ≤ p ∧ (a ≤ s.size → p ≤ s.size) := by
  induction h with
  | refl a => exact ⟨Nat.le_refl _, fun h => h⟩
  | step h _ ih =>
    have := wid_bd s h
    exact ⟨by omega, fun _ => ih.2 (by omega)⟩

theorem Reach.trans {s : ByteArray} {a p q : Nat} (h : Reach s a p) (h' : Reach s p q) : Reach s a q := by
  induction h with
  | refl a => exact h'
  | step h _ ih => exact .step h (ih h')

theorem decL_nil (s : ByteArray) (a : Nat) : decL (s.extract a a) = [] := by
  unfold decL
  have : (s.extract a a).size = 0 := by simp
  rw [Dec.decT_end _ _ this]

/-- Decoded in two parts. -/
theorem decL_cut {s : ByteArray} {a p q : Nat} (h : Reach s a p) (hp : p ≤ q) (hq : q ≤ s.size) : decL (s.extract a q) = decL (s.extract a p) ++ decL (s.extract p q) := by
  induction h with
  | refl a => rw [decL_nil, List.nil_append]
  | @step a p h r ih =>
    have hw := wid_bd s h
    have hl := r.le.1
    have hps : p ≤ s.size := by omega
    rw [decL_step s (by omega) hq (by omega), decL_step s (by omega) hps (by omega), ih hp]
    rfl

theorem insR_mem {a : List Int} {x y : Int} (h : y ∈ a) : y ∈ insR a x := by
  induction a with
  | nil => cases h
  | cons z t ih =>
    unfold insR
    split
    · rcases List.mem_cons.1 h with rfl | h
      · exact List.mem_cons_self
      · exact List.mem_cons_of_mem _ (ih h)
    · exact List.mem_cons_of_mem _ h

theorem insR_app {a : List Int} (b : List Int) {x : Int} (h : ∃ y ∈ a, cls y = 0) : insR (a ++ b) x = insR a x ++ b := by
  induction a with
  | nil => obtain ⟨y, hy, _⟩ := h; cases hy
  | cons z t ih =>
    show insR (z :: (t ++ b)) x = insR (z :: t) x ++ b
    by_cases c : 0 < cls x ∧ cls x < cls z
    · rw [insR_go c, insR_go c, ih (by
        obtain ⟨y, hy, hc⟩ := h
        rcases List.mem_cons.1 hy with rfl | hy
        · omega
        · exact ⟨y, hy, hc⟩)]
      rfl
    · rw [insR_stop c, insR_stop c]
      rfl

theorem fold_app (b : List Int) : ∀ (m a : List Int), (∃ y ∈ a, cls y = 0) → m.foldl insR (a ++ b) = m.foldl insR a ++ b := by
  intro m
  induction m with
  | nil => intro a _; rfl
  | cons x m ih =>
    intro a h
    rw [List.foldl_cons, List.foldl_cons, insR_app b h]
    obtain ⟨y, hy, hc⟩ := h
    exact ih _ ⟨y, insR_mem hy, hc⟩

/-- Marks are sorted in two parts where the second begins with a starter. -/
theorem sortM_app {p q : List Int} (h : q = [] ∨ cls (at0 q 0) = 0) : sortM (p ++ q) = sortM p ++ sortM q := by
  rcases h with rfl | h
  · rw [List.append_nil]
    have : sortM [] = [] := rfl
    rw [this, List.append_nil]
  · cases q with
    | nil => rw [List.append_nil]; have : sortM [] = [] := rfl; rw [this, List.append_nil]
    | cons y m =>
      have hy : cls y = 0 := h
      have i1 : ∀ t : List Int, insR t y = [y] ++ t := fun t => by
        cases t with
        | nil => rfl
        | cons z t => rw [insR_stop (by omega)]; rfl
      rw [sortM_stk, sortM_stk, sortM_stk]
      have e : stk (p ++ y :: m) = stk (y :: m) ++ stk p := by
        unfold stk
        rw [List.foldl_append, List.foldl_cons, List.foldl_cons, i1, fold_app _ m [y] ⟨y, List.mem_singleton.2 rfl, hy⟩]
        rfl
      rw [e, List.reverse_append]

theorem nD_app {x y : List Int} (h : apD y = [] ∨ cls (at0 (apD y) 0) = 0) : nD (x ++ y) = nD x ++ nD y := by
  unfold nD
  have e : apD (x ++ y) = apD x ++ apD y := by simp [apD]
  rw [e, sortM_app h]

/-- Ahead of a rune that may be cut stands nothing that is sorted behind it. -/
theorem cut_head {r : Int} (h : cutB r = true) (l : List Int) : cls (at0 (apD (r :: l)) 0) = 0 := by
  have e : apD (r :: l) = all2 r ++ apD l := by simp [apD]
  obtain ⟨h1, h2⟩ := all2_head r
  by_cases c : cls r = 0
  · obtain ⟨s, u, hs, hc⟩ := h1 c
    rw [e, hs]
    exact hc
  · exfalso
    have hp : 0 < cls r := by have := (cls_range r).1; omega
    have hl : all2 r = [r] := all2_leaf (h2 hp)
    have hn : nD [r] = [r] := by
      unfold nD
      have : apD [r] = [r] := by simp [apD, hl]
      rw [this]
      rfl
    unfold cutB at h
    rw [hn, Bool.and_eq_true] at h
    exact c (of_decide_eq_true h.1)
end Go.Proofs.YtinjldagfhbioaaGreatDoor
