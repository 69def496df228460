/- Contracts of slices.Delete of one element, over rows and over a book. -/
import Derived.Test.YticogafoopkflaaDoorCell6
import Derived.Test.YticogafoopkflaaDoorSPart6
namespace Go.Proofs.YticogafoopkflaaDoor
open Go.RowKit

theorem zero_row6 : ∀ w, (zeroValue 32).run Tryd.prog w = .ok (.agg #[.string ⟨#[]⟩, .string ⟨#[]⟩, .string ⟨#[]⟩]) w := by
  obtain ⟨i0, hi, hzz, _, _⟩ := info_parts info_rwA
  intro w
  simp [zeroValue, typeInfo, hi, hzz]
theorem zero_row6c : (Builtin.zeroCells (Value.agg #[.string ⟨#[]⟩, .string ⟨#[]⟩, .string ⟨#[]⟩]).cells 1).toList = [.string ⟨#[]⟩, .string ⟨#[]⟩, .string ⟨#[]⟩] := by kernel_rfl
theorem zero_rows6c : (Builtin.zeroCells (Value.slice none 0 0).cells 1).toList = [.slice none 0 0] := by kernel_rfl
theorem zero_rows6 : ∀ w, (zeroValue 23).run Tryd.prog w = .ok (.slice none 0 0) w := by
  obtain ⟨i0, hi, hzz, _, _⟩ := info_parts info_rwT
  intro w
  simp [zeroValue, typeInfo, hi, hzz]

set_option maxRecDepth 100000 in
set_option maxHeartbeats 8000000 in
theorem delR_cells {w : World} {g cap i n : Nat} {cur : List Value} (hg : w.heap[g]? = some (.cells cur.toArray 32 (0, 0))) (hcl : cur.length = cap * 3) (hnc : n ≤ cap) (hcm : cap ≤ maxLen) (hi : i < n) (hone : ∀ v ∈ (cur.take (n * 3)).drop ((i + 1) * 3), v.oneCell' = true) :
    Calls Tryd.prog 51 #[.slice (some ⟨g, 0, none⟩) n cap, .int .i64 (i : Int), .int .i64 ((i : Int) + 1)] w fun e w' => ∃ cur' : List Value, e = .returned (.slice (some ⟨g, 0, none⟩) (n - 1) cap) ∧ w'.heap[g]? = some (.cells cur'.toArray 32 (0, 0)) ∧ cur'.length = cap * 3 ∧ cur'.take ((n - 1) * 3) = cur.take (i * 3) ++ (cur.take (n * 3)).drop ((i + 1) * 3) ∧ w.grownBy w' (some g) := by
  obtain ⟨i0, hi0, hzz, hz1, hz2⟩ := info_parts info_rwA
  unfold maxLen at hcm
  obtain ⟨news, HNW⟩ : ∃ news, Hid ((cur.take (n * 3)).drop ((i + 1) * 3) = news) := ⟨_, rfl⟩
  rw [HNW.out] at hone ⊢
  have hnl : news.length = (n - (i + 1)) * 3 := by rw [← HNW.out, List.length_drop, List.length_take]; omega
  have HONE : Hid (∀ v ∈ news, v.oneCell' = true) := hone
  obtain ⟨n1, hn1⟩ : ∃ n1, n - 1 = n1 := ⟨_, rfl⟩
  obtain ⟨m, hm⟩ : ∃ m, n - (i + 1) = m := ⟨_, rfl⟩
  rw [hm] at hnl
  have htot : i + m = n1 := by omega
  rw [hn1]
  have HG : Hid (∀ u : World, u.heap = w.heap → u.heap[g]? = some (.cells cur.toArray 32 (0, 0))) := fun u hu => by rw [hu]; exact hg
  have HCUR : Hid (cur.length = cap * 3) := hcl
  have HSRC : Hid (∀ u : World, u.heap = w.heap → ∀ (off : Nat), off = (i + 1) * 3 → ∀ j v, news[j]? = some v → u.cell? ((⟨g, off, none⟩ : Addr).add j) = some v) := fun u hu off ho j v hj => by
    rw [add_cell, cell_list (HG.out u hu), ho]
    rw [← HNW.out, List.getElem?_drop, List.getElem?_take] at hj
    split at hj
    · exact hj
    · cases hj
  have HFIT : Hid (i * 3 + news.length ≤ cur.length) := by show _ ≤ _; rw [hnl, hcl]; omega
  have HEND : Hid (∀ (w1 : World), w1.heap[g]? = some (.cells (splice cur (i * 3) news).toArray 32 (0, 0)) → (∀ ty, (Builtin.clear_ #[23] ty #[.slice (some ⟨g, n1 * 3, none⟩) 1 (cap - n1)]).run Tryd.prog w1 = .ok (.tuple #[]) (w1.setCells g (n1 * 3) [.string ⟨#[]⟩, .string ⟨#[]⟩, .string ⟨#[]⟩])) ∧ ∃ cur' : List Value, (w1.setCells g (n1 * 3) [.string ⟨#[]⟩, .string ⟨#[]⟩, .string ⟨#[]⟩]).heap[g]? = some (.cells cur'.toArray 32 (0, 0)) ∧ cur'.length = cap * 3 ∧ cur'.take (n1 * 3) = cur.take (i * 3) ++ news) := fun w1 h1 => by
    have hl1 : (splice cur (i * 3) news).length = cap * 3 := by rw [length_splice _ _ _ HFIT.out]; exact HCUR.out
    have hfz : n1 * 3 + ([.string ⟨#[]⟩, .string ⟨#[]⟩, .string ⟨#[]⟩] : List Value).length ≤ (splice cur (i * 3) news).length := by rw [hl1]; simp; omega
    refine ⟨fun ty => run_clear1 w1 23 32 ty _ [.string ⟨#[]⟩, .string ⟨#[]⟩, .string ⟨#[]⟩] Tryd.underlying23 zero_row6 zero_row6c (fun v hv => by simp at hv; subst hv; rfl) g (n1 * 3) _ (fun j hj => (cells_there h1 (by omega)).1) (fun j hj => (cells_there h1 (by omega)).2), _, row_sets6 _ _ h1 hfz, by rw [length_splice _ _ _ hfz]; exact hl1, ?_⟩
    rw [splice_take _ _ _ (by rw [hl1]; omega)]
    have e := splice_take2 cur news (i * 3) (by rw [HCUR.out]; omega)
    rw [hnl, show i * 3 + m * 3 = n1 * 3 by omega] at e
    exact e
  have hi9 : ¬ (i : Int) = (i : Int) + 1 := by omega
  have hi7 : (i : Int) + 1 ≤ (n : Int) := by omega
  have hi6 : (i : Int) ≤ (i : Int) + 1 := by omega
  have hi5 : (i : Int) ≤ (cap : Int) := by omega
  have hi4 : (i : Int) + 1 ≤ (cap : Int) := by omega
  have hnc8 : (n : Int) ≤ (cap : Int) := by omega
  have hz8 : (0 : Int) ≤ (i : Int) + 1 := by omega
  have hto : ((i : Int) + 1).toNat = i + 1 := by omega
  have hck : (cap == i) = false := by simp; omega
  have hck1 : (cap == n1) = false := by simp; omega
  have hck0 : ¬ cap = i := by omega
  have hck2 : ¬ cap = n1 := by omega
  have hn18 : (n1 : Int) ≤ (n : Int) := by omega
  have hn17 : (n1 : Int) ≤ (cap : Int) := by omega
  have hnn : n - n1 = 1 := by omega
  have hcn : (n == i) = false := by simp; omega
  clear hg hcl hone
  by_cases hce : cap = i + 1
  · have hm0 : m = 0 := by omega
    have HN0 : Hid (news = []) := List.eq_nil_of_length_eq_zero (by rw [hnl, hm0])
    subst hm0
    subst hce
    have hnn2 : n - (i + 1) = 0 := by omega
    go_enter Tryd.func51, Tryd.ntmps51
    go_wp2_with fail
    go_region_law (refine step_room6 rfl (.tmp 22) (.tmp 25) 23 rfl 32 i0 3 Tryd.underlying23 hi0 hz1 g i (i + 1) (by kernel_rfl) ⟨g, 0, none⟩ 0 0 (by kernel_rfl) cur 32 (HG.out _ rfl) news (by rw [HN0.out]; rfl) (fun j u hj => by rw [HN0.out] at hj; simp at hj) HONE.out (by omega) HFIT.out n1 htot ?_; intro w1 hw1 hg1)
    all_goals
      obtain ⟨hclr, cur', c1, c2, c3⟩ := HEND.out w1 hw1.out
      have HC : Hid _ := And.intro c1 (And.intro c2 c3)
      have HG1 : Hid (w.grownBy w1 (some g)) := ⟨hg1.os, hg1.tape, hg1.output, hg1.size, hg1.block⟩
      clear hw1 hg1 c1 c2 c3 HEND HG
      go_wp2
      go_ret
      exact ⟨_, rfl, HC.out.1, HC.out.2.1, HC.out.2.2, HG1.out.trans (grown_sets6 _ _ _ _)⟩
  · have hce2 : (cap == i + 1) = false := by simpa using hce
    go_enter Tryd.func51, Tryd.ntmps51
    go_wp2_with fail
    go_region_law (refine step_room6 rfl (.tmp 22) (.tmp 25) 23 rfl 32 i0 3 Tryd.underlying23 hi0 hz1 g i cap (by kernel_rfl) ⟨g, (i + 1) * 3, none⟩ m (cap - (i + 1)) (by kernel_rfl) cur 32 (HG.out _ rfl) news hnl (HSRC.out _ rfl _ rfl) HONE.out (by omega) HFIT.out n1 (by omega) ?_; intro w1 hw1 hg1)
    all_goals
      obtain ⟨hclr, cur', c1, c2, c3⟩ := HEND.out w1 hw1.out
      have HC : Hid _ := And.intro c1 (And.intro c2 c3)
      have HG1 : Hid (w.grownBy w1 (some g)) := ⟨hg1.os, hg1.tape, hg1.output, hg1.size, hg1.block⟩
      clear hw1 hg1 c1 c2 c3 HEND HG
      go_wp2
      go_ret
      exact ⟨_, rfl, HC.out.1, HC.out.2.1, HC.out.2.2, HG1.out.trans (grown_sets6 _ _ _ _)⟩

set_option maxRecDepth 100000 in
set_option maxHeartbeats 8000000 in
theorem delB_cells {w : World} {g cap i n : Nat} {cur : List Value} (hg : w.heap[g]? = some (.cells cur.toArray 23 (0, 0))) (hcl : cur.length = cap) (hnc : n ≤ cap) (hcm : cap ≤ maxLen) (hi : i < n) (hone : ∀ v ∈ (cur.take (n)).drop ((i + 1)), v.oneCell' = true) :
    Calls Tryd.prog 78 #[.slice (some ⟨g, 0, none⟩) n cap, .int .i64 (i : Int), .int .i64 ((i : Int) + 1)] w fun e w' => ∃ cur' : List Value, e = .returned (.slice (some ⟨g, 0, none⟩) (n - 1) cap) ∧ w'.heap[g]? = some (.cells cur'.toArray 23 (0, 0)) ∧ cur'.length = cap ∧ cur'.take ((n - 1)) = cur.take (i) ++ (cur.take (n)).drop ((i + 1)) ∧ w.grownBy w' (some g) := by
  obtain ⟨i0, hi0, hzz, hz1, hz2⟩ := info_parts info_rwT
  unfold maxLen at hcm
  obtain ⟨news, HNW⟩ : ∃ news, Hid ((cur.take (n)).drop ((i + 1)) = news) := ⟨_, rfl⟩
  rw [HNW.out] at hone ⊢
  have hnl : news.length = (n - (i + 1)) := by rw [← HNW.out, List.length_drop, List.length_take]; omega
  have HONE : Hid (∀ v ∈ news, v.oneCell' = true) := hone
  obtain ⟨n1, hn1⟩ : ∃ n1, n - 1 = n1 := ⟨_, rfl⟩
  obtain ⟨m, hm⟩ : ∃ m, n - (i + 1) = m := ⟨_, rfl⟩
  rw [hm] at hnl
  have htot : i + m = n1 := by omega
  rw [hn1]
  have HG : Hid (∀ u : World, u.heap = w.heap → u.heap[g]? = some (.cells cur.toArray 23 (0, 0))) := fun u hu => by rw [hu]; exact hg
  have HCUR : Hid (cur.length = cap) := hcl
  have HSRC : Hid (∀ u : World, u.heap = w.heap → ∀ (off : Nat), off = (i + 1) → ∀ j v, news[j]? = some v → u.cell? ((⟨g, off, none⟩ : Addr).add j) = some v) := fun u hu off ho j v hj => by
    rw [add_cell, cell_list (HG.out u hu), ho]
    rw [← HNW.out, List.getElem?_drop, List.getElem?_take] at hj
    split at hj
    · exact hj
    · cases hj
  have HFIT : Hid (i + news.length ≤ cur.length) := by show _ ≤ _; rw [hnl, hcl]; omega
  have HEND : Hid (∀ (w1 : World), w1.heap[g]? = some (.cells (splice cur (i) news).toArray 23 (0, 0)) → (∀ ty, (Builtin.clear_ #[55] ty #[.slice (some ⟨g, n1, none⟩) 1 (cap - n1)]).run Tryd.prog w1 = .ok (.tuple #[]) (w1.setCells g (n1) [.slice none 0 0])) ∧ ∃ cur' : List Value, (w1.setCells g (n1) [.slice none 0 0]).heap[g]? = some (.cells cur'.toArray 23 (0, 0)) ∧ cur'.length = cap ∧ cur'.take (n1) = cur.take (i) ++ news) := fun w1 h1 => by
    have hl1 : (splice cur (i) news).length = cap := by rw [length_splice _ _ _ HFIT.out]; exact HCUR.out
    have hfz : n1 + ([.slice none 0 0] : List Value).length ≤ (splice cur (i) news).length := by rw [hl1]; simp; omega
    refine ⟨fun ty => run_clear1 w1 55 23 ty _ [.slice none 0 0] Tryd.underlying55 zero_rows6 zero_rows6c (fun v hv => by simp at hv; subst hv; rfl) g (n1) _ (fun j hj => (cells_there h1 (by omega)).1) (fun j hj => (cells_there h1 (by omega)).2), _, row_sets6 _ _ h1 hfz, by rw [length_splice _ _ _ hfz]; exact hl1, ?_⟩
    rw [splice_take _ _ _ (by rw [hl1]; omega)]
    have e := splice_take2 cur news (i) (by rw [HCUR.out]; omega)
    rw [hnl, show i + m = n1 by omega] at e
    exact e
  have hi9 : ¬ (i : Int) = (i : Int) + 1 := by omega
  have hi7 : (i : Int) + 1 ≤ (n : Int) := by omega
  have hi6 : (i : Int) ≤ (i : Int) + 1 := by omega
  have hi5 : (i : Int) ≤ (cap : Int) := by omega
  have hi4 : (i : Int) + 1 ≤ (cap : Int) := by omega
  have hnc8 : (n : Int) ≤ (cap : Int) := by omega
  have hz8 : (0 : Int) ≤ (i : Int) + 1 := by omega
  have hto : ((i : Int) + 1).toNat = i + 1 := by omega
  have hck : (cap == i) = false := by simp; omega
  have hck1 : (cap == n1) = false := by simp; omega
  have hck0 : ¬ cap = i := by omega
  have hck2 : ¬ cap = n1 := by omega
  have hn18 : (n1 : Int) ≤ (n : Int) := by omega
  have hn17 : (n1 : Int) ≤ (cap : Int) := by omega
  have hnn : n - n1 = 1 := by omega
  have hcn : (n == i) = false := by simp; omega
  clear hg hcl hone
  by_cases hce : cap = i + 1
  · have hm0 : m = 0 := by omega
    have HN0 : Hid (news = []) := List.eq_nil_of_length_eq_zero (by rw [hnl, hm0])
    subst hm0
    subst hce
    have hnn2 : n - (i + 1) = 0 := by omega
    go_enter Tryd.func78, Tryd.ntmps78
    go_wp2_with fail
    go_region_law (refine step_room6 rfl (.tmp 22) (.tmp 25) 55 rfl 23 i0 1 Tryd.underlying55 hi0 hz1 g i (i + 1) (by kernel_rfl) ⟨g, 0, none⟩ 0 0 (by kernel_rfl) cur 23 (HG.out _ rfl) news (by rw [HN0.out]; rfl) (fun j u hj => by rw [HN0.out] at hj; simp at hj) HONE.out (by omega) (by rw [Nat.mul_one]; exact HFIT.out) n1 htot ?_; intro w1 hw1 hg1)
    all_goals
      obtain ⟨hclr, cur', c1, c2, c3⟩ := HEND.out w1 (by have q := hw1.out; rw [Nat.mul_one] at q; exact q)
      have HC : Hid _ := And.intro c1 (And.intro c2 c3)
      have HG1 : Hid (w.grownBy w1 (some g)) := ⟨hg1.os, hg1.tape, hg1.output, hg1.size, hg1.block⟩
      clear hw1 hg1 c1 c2 c3 HEND HG
      go_wp2
      go_ret
      exact ⟨_, rfl, HC.out.1, HC.out.2.1, HC.out.2.2, HG1.out.trans (grown_sets6 _ _ _ _)⟩
  · have hce2 : (cap == i + 1) = false := by simpa using hce
    go_enter Tryd.func78, Tryd.ntmps78
    go_wp2_with fail
    go_region_law (refine step_room6 rfl (.tmp 22) (.tmp 25) 55 rfl 23 i0 1 Tryd.underlying55 hi0 hz1 g i cap (by kernel_rfl) ⟨g, (i + 1), none⟩ m (cap - (i + 1)) (by kernel_rfl) cur 23 (HG.out _ rfl) news (by rw [Nat.mul_one]; exact hnl) (HSRC.out _ rfl _ rfl) HONE.out (by omega) (by rw [Nat.mul_one]; exact HFIT.out) n1 (by omega) ?_; intro w1 hw1 hg1)
    all_goals
      obtain ⟨hclr, cur', c1, c2, c3⟩ := HEND.out w1 (by have q := hw1.out; rw [Nat.mul_one] at q; exact q)
      have HC : Hid _ := And.intro c1 (And.intro c2 c3)
      have HG1 : Hid (w.grownBy w1 (some g)) := ⟨hg1.os, hg1.tape, hg1.output, hg1.size, hg1.block⟩
      clear hw1 hg1 c1 c2 c3 HEND HG
      go_wp2
      go_ret
      exact ⟨_, rfl, HC.out.1, HC.out.2.1, HC.out.2.2, HG1.out.trans (grown_sets6 _ _ _ _)⟩

theorem rwAll_takeD (l : List Rw) (i : Nat) (h : i ≤ l.length) : (rwAll l).take (i * 3) = rwAll (l.take i) := by
  conv => lhs; rw [← List.take_append_drop i l, rwAll_append]
  exact List.take_left' (by rw [rwAll_len, List.length_take]; omega)
theorem rwAll_dropD (l : List Rw) (i : Nat) (h : i ≤ l.length) : (rwAll l).drop (i * 3) = rwAll (l.drop i) := by
  conv => lhs; rw [← List.take_append_drop i l, rwAll_append]
  exact List.drop_left' (by rw [rwAll_len, List.length_take]; omega)

/-- slices.Delete of one row. -/
theorem delR_any {w : World} {B g cap i : Nat} {l : List Rw} (hI : Rws w B (.slice (some ⟨g, 0, none⟩) l.length cap) l) (hi : i < l.length) :
    Calls Tryd.prog 51 #[.slice (some ⟨g, 0, none⟩) l.length cap, .int .i64 (i : Int), .int .i64 ((i : Int) + 1)] w fun e w' => e = .returned (.slice (some ⟨g, 0, none⟩) (l.length - 1) cap) ∧ Rws w' B (.slice (some ⟨g, 0, none⟩) (l.length - 1) cap) (l.take i ++ l.drop (i + 1)) ∧ w.grownBy w' (some g) := by
  rcases hI.2 with ⟨q, _⟩ | ⟨g', cap', cur, q, h1, h2, h3, h4, h5, h6⟩
  · cases q
  · injection q with q1 _ q3
    injection q1 with q1
    injection q1 with q1
    subst q1
    subst q3
    have hg : w.heap[g]? = some (.cells cur.toList.toArray 32 (0, 0)) := by simpa using h2
    have hn : (cur.toList.take (l.length * 3)).drop ((i + 1) * 3) = rwAll (l.drop (i + 1)) := by rw [h6, rwAll_dropD _ _ (by omega)]
    have hlen : (l.take i ++ l.drop (i + 1)).length = l.length - 1 := by rw [List.length_append, List.length_take, List.length_drop]; omega
    refine (delR_cells hg (by rw [Array.length_toList]; exact h5) h3 h4 hi (by rw [hn]; exact rwAll_one _)).mono ?_
    rintro e w' ⟨cur', rfl, c1, c2, c3, c4⟩
    refine ⟨rfl, ?_, c4⟩
    unfold Rws
    refine ⟨by rw [rwAll_len], .inr ⟨g, cap, cur'.toArray, by rw [hlen], h1, c1, by omega, h4, by simpa using c2, ?_⟩⟩
    rw [hlen]
    rw [hn] at c3
    have h7 : cur.toList.take (i * 3) = rwAll (l.take i) := by
      rw [← rwAll_takeD _ _ (by omega), ← h6, List.take_take]
      congr 1
      omega
    rw [h7] at c3
    rw [rwAll_append]
    exact c3

/-- slices.Delete of one page. -/
theorem delB_any {w : World} {B g cap i : Nat} {gs : List (List Rw)} {vs : List Value} (hO : OwnT w B (.slice (some ⟨g, 0, none⟩) gs.length cap) gs vs) (hi : i < gs.length) :
    Calls Tryd.prog 78 #[.slice (some ⟨g, 0, none⟩) gs.length cap, .int .i64 (i : Int), .int .i64 ((i : Int) + 1)] w fun e w' => ∃ v, e = .returned v ∧ OwnT w' B v (gs.take i ++ gs.drop (i + 1)) (vs.take i ++ vs.drop (i + 1)) ∧ w.grownBy w' (some g) := by
  obtain ⟨g', cap', cur, hv, hBg, hg, hnc, hcm, hcl, htk⟩ := hO.block (by omega)
  obtain ⟨rfl, rfl⟩ : g' = g ∧ cap' = cap := by
    injection hv with q1 _ q3
    injection q1 with q1
    injection q1 with q1
    exact ⟨q1.symm, q3.symm⟩
  have hn : (cur.take gs.length).drop (i + 1) = vs.drop (i + 1) := by rw [htk]
  have hlen : (gs.take i ++ gs.drop (i + 1)).length = gs.length - 1 := by rw [List.length_append, List.length_take, List.length_drop]; omega
  refine (delB_cells hg hcl hnc hcm hi (by rw [hn]; exact fun v hv => hO.2.one' v (List.mem_of_mem_drop hv))).mono ?_
  rintro e w' ⟨cur', rfl, c1, c2, c3, c4⟩
  rw [hn] at c3
  have h7 : cur.take i = vs.take i := by
    rw [← htk, List.take_take]
    congr 1
    omega
  rw [h7] at c3
  have hv2 : ValsT w' (vs.take i ++ vs.drop (i + 1)) (gs.take i ++ gs.drop (i + 1)) := ((hO.2.take i).app (hO.2.drop (i + 1))).kept c4 hg
  have := ownT_of (w := w') (B := B) (g := g') (cap := cap') hBg c1 (by rw [hlen]; omega) hcm c2 (by rw [hlen]; exact c3) hv2
  rw [hlen] at this
  exact ⟨_, rfl, this, c4⟩
end Go.Proofs.YticogafoopkflaaDoor
