/- Contract of slices.Replace of two pages by one. -/
import Derived.Test.YticogafoopkflaaDoorRepl6
import Derived.Test.YticogafoopkflaaDoorDel6
namespace Go.Proofs.YticogafoopkflaaDoor
open Go.RowKit

theorem wpList_roomT {w : World} {ops : Array Oper} {rest : List Oper} {o : Oper} {a : Act} {Q : Exit → Act → World → Prop} (hgd : o.guard = none) (s x : Operand)
    (ho : o.op = .call { callee := .builtin .append, args := #[s, x], argTypes := #[55, 52] }) (g n cap : Nat) (hs : a.eval s = .slice (some ⟨g, 0, none⟩) n cap) (ad : Addr) (m c : Nat) (hx : a.eval x = .slice (some ad) m c)
    (cur : List Value) (hg : w.heap[g]? = some (.cells cur.toArray 23 (0, 0))) (news : List Value) (hn : news.length = m) (hsrc : ∀ j u, news[j]? = some u → w.cell? (ad.add j) = some u) (h1 : ∀ u ∈ news, u.oneCell' = true) (hroom : n + m ≤ cap) (hfit : n + news.length ≤ cur.length) (tot : Nat) (htot : n + m = tot)
    (h : ∀ w', Hid (w'.heap[g]? = some (.cells (splice cur n news).toArray 23 (0, 0))) → w.grownBy w' (some g) → wpList Tryd.prog ops Q rest (a.put o.dst (.slice (some ⟨g, 0, none⟩) tot cap)) w') : wpList Tryd.prog ops Q (o :: rest) a w := by
  obtain ⟨i0, hi, hzz, hz1, hz2⟩ := info_parts info_rwT
  have hrun := run_append_room_cells (P := Tryd.prog) w 55 o.type 23 i0 Tryd.underlying55 hi g 0 n cap ad m c news (by rw [hz1, Nat.mul_one]; exact hn) hsrc h1 hroom (fun j hj => by rw [hz1]; exact (cells_there hg (by omega)).1) (fun j hj => by rw [hz1]; exact (cells_there hg (by omega)).2)
  rw [← append_types (tn := 52) Tryd.underlying55 Tryd.underlying52, hz1, Nat.mul_one, Nat.zero_add, htot] at hrun
  exact Go.Lib.wpList_append_run w hgd s x 55 52 ho _ _ hs hx _ _ hrun (h _ (row_sets6 news _ hg hfit) (grown_sets6 _ _ _ _))

theorem clear_page {w : World} {g k cap : Nat} {cur : List Value} (hg : w.heap[g]? = some (.cells cur.toArray 23 (0, 0))) (hk : k < cur.length) (ty : TypeId) :
    (Builtin.clear_ #[55] ty #[.slice (some ⟨g, k, none⟩) 1 cap]).run Tryd.prog w = .ok (.tuple #[]) (w.setCells g k [.slice none 0 0]) :=
  run_clear1 w 55 23 ty _ [.slice none 0 0] Tryd.underlying55 zero_rows6 zero_rows6c (fun v hv => by simp at hv; subst hv; rfl) g k cap (fun j hj => (cells_there hg (by simp at hj; omega)).1) (fun j hj => (cells_there hg (by simp at hj; omega)).2)

set_option maxRecDepth 100000 in
set_option maxHeartbeats 4000000 in
/-- The last two. -/
theorem replace2_last {w : World} {B B' g cap i n : Nat} {vp : Value} {gs ps : List (List Rw)} {vs vsp : List Value} (hO : OwnT w B (.slice (some ⟨g, 0, none⟩) gs.length cap) gs vs) (hP : OwnT w B' vp ps vsp) (hn : gs.length = n) (hi : i + 2 = n) (h0 : ps.length = 1) (hb : n ≤ 1000) :
    Calls Tryd.prog 42 #[.slice (some ⟨g, 0, none⟩) n cap, .int .i64 (i : Int), .int .i64 (n : Int), vp] w fun e w' => ∃ v', e = .returned v' ∧ OwnT w' B v' (gs.take i ++ (ps ++ gs.drop n)) (vs.take i ++ (vsp ++ vs.drop n)) ∧ w.grownBy w' (some g) := by
  obtain ⟨g', cap', cur, hv, hBg, hg, hnc, hcm, hcl, htk⟩ := hO.block (by omega)
  obtain ⟨rfl, rfl⟩ : g' = g ∧ cap' = cap := by
    injection hv with q1 _ q3
    injection q1 with q1
    injection q1 with q1
    exact ⟨q1.symm, q3.symm⟩
  obtain ⟨gp, cp, curp, rfl, _, hgp, _, _, _, htp⟩ := hP.block (by omega)
  unfold maxLen at hcm
  have hvl := hO.2.1
  have hvpl := hP.2.1
  have HO : Hid (ValsT w vs gs) := hO.2
  have HP : Hid (ValsT w vsp ps) := hP.2
  have HD : Hid (gs.drop n = [] ∧ vs.drop n = []) := ⟨List.drop_eq_nil_of_le (by omega), List.drop_eq_nil_of_le (by omega)⟩
  rw [HD.out.1, HD.out.2, List.append_nil, List.append_nil]
  rw [hn] at hnc htk hvl
  rw [h0] at hvpl
  rw [h0]
  obtain ⟨k1, hk1⟩ : ∃ k1, i + 1 = k1 := ⟨_, rfl⟩
  have HGL : Hid ((gs.take i ++ ps).length = k1) := by show _ = _; rw [List.length_append, List.length_take]; omega
  have HSP : Hid (∀ j v, vsp[j]? = some v → w.cell? ((⟨gp, 0, none⟩ : Addr).add j) = some v) := fun j v hj => by
    have hjl := (List.getElem?_eq_some_iff.1 hj).1
    have hcc := World.ownsRow.cellAt hP.1 j (by omega)
    rw [add_cell, Nat.zero_add, hcc]
    exact hj
  have HG : Hid (w.heap[g']? = some (.cells cur.toArray 23 (0, 0))) := hg
  have HVP : Hid (∀ v ∈ vsp, v.oneCell' = true) := hP.2.one'
  have HFT : Hid (i + vsp.length ≤ cur.length) := by show _ ≤ _; rw [hvpl, hcl]; omega
  have HVL : Hid (vsp.length = 1) := hvpl
  have HEND : Hid (∀ w1 : World, w1.heap[g']? = some (.cells (splice cur i vsp).toArray 23 (0, 0)) → w.grownBy w1 (some g') → (∀ ty, (Builtin.clear_ #[55] ty #[.slice (some ⟨g', k1, none⟩) 1 (cap' - k1)]).run Tryd.prog w1 = .ok (.tuple #[]) (w1.setCells g' k1 [.slice none 0 0])) ∧ OwnT (w1.setCells g' k1 [.slice none 0 0]) B (.slice (some ⟨g', 0, none⟩) k1 cap') (gs.take i ++ ps) (vs.take i ++ vsp)) := fun w1 h1 hgr => by
    have hl1 : (splice cur i vsp).length = cap' := by rw [length_splice _ _ _ HFT.out]; exact hcl
    have hfz : k1 + ([.slice none 0 0] : List Value).length ≤ (splice cur i vsp).length := by rw [hl1]; simp; omega
    refine ⟨fun ty => clear_page h1 (by omega) ty, ?_⟩
    have hv : ValsT (w1.setCells g' k1 [.slice none 0 0]) (vs.take i ++ vsp) (gs.take i ++ ps) := ((HO.out.take i).app HP.out).kept (hgr.trans (grown_sets6 _ _ _ _)) HG.out
    have e := ownT_of (gs := gs.take i ++ ps) (vs := vs.take i ++ vsp) (cap := cap') hBg (row_sets6 [.slice none 0 0] k1 h1 hfz) (by rw [HGL.out]; omega) (by unfold maxLen; omega) (by rw [length_splice _ _ _ hfz]; exact hl1) (by
      rw [HGL.out, splice_take _ _ _ (by rw [hl1]; omega), ← hk1]
      have q := splice_take2 cur vsp i (by rw [hcl]; omega)
      rw [HVL.out] at q
      rw [q, ← htk, List.take_take, show min i n = i by omega]) hv
    rw [HGL.out] at e
    exact e
  have hi9 : ¬ (i : Int) = (n : Int) := by omega
  have hi7 : (n : Int) ≤ (cap' : Int) := by omega
  have hi6 : (i : Int) ≤ (n : Int) := by omega
  have hi5 : (i : Int) ≤ (cap' : Int) := by omega
  have hck : (cap' == i) = false := by simp; omega
  have hck1 : (cap' == k1) = false := by simp; omega
  have hkn : (k1 : Int) < (n : Int) := by omega
  have hkn2 : (k1 : Int) ≤ (n : Int) := by omega
  have hkc : (k1 : Int) ≤ (cap' : Int) := by omega
  have hnk : n - k1 = 1 := by omega
  have hrm : i + 1 ≤ cap' := by omega
  clear hO hP hv hcl htk hvl hvpl htp hgp hg hn h0
  go_enter Tryd.func42, Tryd.ntmps42
  go_wp2_with (at_builtin; refine wpList_roomT rfl _ _ rfl g' i cap' rfl ⟨gp, 0, none⟩ 1 cp rfl cur HG.out vsp HVL.out HSP.out HVP.out hrm HFT.out k1 hk1 ?_; intro w1 hw1 hg1)
  obtain ⟨hclr, o1⟩ := HEND.out w1 hw1.out hg1
  have HO1 : Hid (OwnT _ _ _ _ _) := o1
  have HG1 : Hid (w.grownBy (w1.setCells g' k1 [.slice none 0 0]) (some g')) := hg1.trans (grown_sets6 _ _ _ _)
  clear o1 hw1 hg1 HEND
  go_wp2
  simp only [hclr]
  go_wp2
  go_ret
  exact ⟨_, rfl, HO1.out, HG1.out⟩

set_option maxRecDepth 100000 in
set_option maxHeartbeats 4000000 in
/-- Two in the midst. -/
theorem replace2_mid {w : World} {B B' g cap i j n : Nat} {vp : Value} {gs ps : List (List Rw)} {vs vsp : List Value} (hO : OwnT w B (.slice (some ⟨g, 0, none⟩) gs.length cap) gs vs) (hP : OwnT w B' vp ps vsp) (hne : ∀ gp, vp.ownBlock = some gp → gp ≠ g) (hn : gs.length = n) (hj : i + 2 = j) (hjn : j < n) (h0 : ps.length = 1) (hb : n ≤ 1000) :
    Calls Tryd.prog 42 #[.slice (some ⟨g, 0, none⟩) n cap, .int .i64 (i : Int), .int .i64 (j : Int), vp] w fun e w' => ∃ v', e = .returned v' ∧ OwnT w' B v' (gs.take i ++ (ps ++ gs.drop j)) (vs.take i ++ (vsp ++ vs.drop j)) ∧ w.grownBy w' (some g) := by
  obtain ⟨g', cap', cur, hv, hBg, hg, hnc, hcm, hcl, htk⟩ := hO.block (by omega)
  obtain ⟨rfl, rfl⟩ : g' = g ∧ cap' = cap := by
    injection hv with q1 _ q3
    injection q1 with q1
    injection q1 with q1
    exact ⟨q1.symm, q3.symm⟩
  obtain ⟨gp, cp, curp, rfl, _, hgp, _, _, _, htp⟩ := hP.block (by omega)
  have hne' : gp ≠ g' := hne gp rfl
  unfold maxLen at hcm
  have hvl := hO.2.1
  have hvpl := hP.2.1
  have HO : Hid (ValsT w vs gs) := hO.2
  have HP : Hid (ValsT w vsp ps) := hP.2
  rw [hn] at hnc htk hvl
  rw [h0] at hvpl
  rw [h0]
  obtain ⟨k1, hk1⟩ : ∃ k1, i + 1 = k1 := ⟨_, rfl⟩
  obtain ⟨q, hq⟩ : ∃ q, n - j = q := ⟨_, rfl⟩
  obtain ⟨tot, htt⟩ : ∃ tot, n - 1 = tot := ⟨_, rfl⟩
  obtain ⟨D, HDE⟩ : ∃ D, Hid (vs.drop j = D) := ⟨_, rfl⟩
  have hdl : D.length = q := by rw [← HDE.out, List.length_drop]; omega
  have HGL : Hid ((gs.take i ++ (ps ++ gs.drop j)).length = tot) := by show _ = _; rw [List.length_append, List.length_append, List.length_take, List.length_drop]; omega
  have HSP : Hid (∀ j v, vsp[j]? = some v → w.cell? ((⟨gp, 0, none⟩ : Addr).add j) = some v) := fun j v hj => by
    have hjl := (List.getElem?_eq_some_iff.1 hj).1
    have hcc := World.ownsRow.cellAt hP.1 j (by omega)
    rw [add_cell, Nat.zero_add, hcc]
    exact hj
  have HG : Hid (w.heap[g']? = some (.cells cur.toArray 23 (0, 0))) := hg
  have HVP : Hid (∀ v ∈ vsp, v.oneCell' = true) := hP.2.one'
  have HDV : Hid (∀ v ∈ D, v.oneCell' = true) := fun v hv => hO.2.one' v (List.mem_of_mem_drop (by rw [HDE.out]; exact hv))
  have HVL : Hid (vsp.length = 1) := hvpl
  obtain ⟨X1, HX1⟩ : ∃ X1, Hid (X1 = splice cur i vsp) := ⟨_, rfl⟩
  have HFT : Hid (i + vsp.length ≤ cur.length) := by show _ ≤ _; rw [hvpl, hcl]; omega
  have HX1L : Hid (X1.length = cap') := by show _ = _; rw [HX1.out, length_splice _ _ _ HFT.out]; exact hcl
  have HDF : Hid (k1 + D.length ≤ X1.length) := by show _ ≤ _; rw [hdl, HX1L.out]; omega
  have HS1 : Hid (vsp.length = Nat.min 1 (tot - i)) := by show _ = min 1 (tot - i); rw [hvpl]; omega
  have HDM : Hid (D.length = Nat.min q q) := by show _ = min q q; rw [hdl]; omega
  have HSR : Hid (∀ (u : World), u.heap[g']? = some (.cells X1.toArray 23 (0, 0)) → ∀ t v, D[t]? = some v → u.cell? ((⟨g', j, none⟩ : Addr).add t) = some v) := fun u hu t v ht => by
    rw [add_cell, cell_list hu, HX1.out, splice_far (by rw [HVL.out]; omega) (by rw [hcl]; omega)]
    have htl := (List.getElem?_eq_some_iff.1 ht).1
    rw [← HDE.out, List.getElem?_drop, ← htk, List.getElem?_take_of_lt (by omega)] at ht
    exact ht
  have HEND : Hid (∀ w2 : World, w2.heap[g']? = some (.cells (splice X1 k1 D).toArray 23 (0, 0)) → w.grownBy w2 (some g') → (∀ ty, (Builtin.clear_ #[55] ty #[.slice (some ⟨g', tot, none⟩) 1 (cap' - tot)]).run Tryd.prog w2 = .ok (.tuple #[]) (w2.setCells g' tot [.slice none 0 0])) ∧ OwnT (w2.setCells g' tot [.slice none 0 0]) B (.slice (some ⟨g', 0, none⟩) tot cap') (gs.take i ++ (ps ++ gs.drop j)) (vs.take i ++ (vsp ++ vs.drop j))) := fun w2 h2 hgr => by
    have hl2 : (splice X1 k1 D).length = cap' := by rw [length_splice _ _ _ HDF.out]; exact HX1L.out
    have hfz : tot + ([.slice none 0 0] : List Value).length ≤ (splice X1 k1 D).length := by rw [hl2]; simp; omega
    refine ⟨fun ty => clear_page h2 (by omega) ty, ?_⟩
    have hv : ValsT (w2.setCells g' tot [.slice none 0 0]) (vs.take i ++ (vsp ++ vs.drop j)) (gs.take i ++ (ps ++ gs.drop j)) := ((HO.out.take i).app (HP.out.app (HO.out.drop j))).kept (hgr.trans (grown_sets6 _ _ _ _)) HG.out
    have e := ownT_of (gs := gs.take i ++ (ps ++ gs.drop j)) (vs := vs.take i ++ (vsp ++ vs.drop j)) (cap := cap') hBg (row_sets6 [.slice none 0 0] tot h2 hfz) (by rw [HGL.out]; omega) (by unfold maxLen; omega) (by rw [length_splice _ _ _ hfz]; exact hl2) (by
      rw [HGL.out, splice_take _ _ _ (by rw [hl2]; omega)]
      have q2 := splice_two cur vsp D i (by rw [HVL.out, hdl, hcl]; omega)
      rw [HVL.out, hdl, hk1, show k1 + q = tot by omega, ← HX1.out] at q2
      rw [q2, HDE.out, ← htk, List.take_take, show min i n = i by omega]) hv
    rw [HGL.out] at e
    exact e
  have hi9 : ¬ (i : Int) = (j : Int) := by omega
  have hj9 : ¬ (j : Int) = (n : Int) := by omega
  have hij : (i : Int) ≤ (j : Int) := by omega
  have hi5 : (i : Int) ≤ (cap' : Int) := by omega
  have hj5 : (j : Int) ≤ (cap' : Int) := by omega
  have hin : (i : Int) ≤ (n : Int) := by omega
  have hjn8 : (j : Int) ≤ (n : Int) := by omega
  have hck : (cap' == i) = false := by simp; omega
  have hckj : (cap' == j) = false := by simp; omega
  have hckk : (cap' == k1) = false := by simp; omega
  have hckt : (cap' == tot) = false := by simp; omega
  have hsum1 : (i : Int) + 1 = (k1 : Int) := by omega
  have hsum2 : (k1 : Int) + (q : Int) = (tot : Int) := by omega
  have hwk : IntKind.i64.wrap (k1 : Int) = (k1 : Int) := by rw [IntKind.wrap_i64]; omega
  have hwt : IntKind.i64.wrap (tot : Int) = (tot : Int) := by rw [IntKind.wrap_i64]; omega
  have hct : ¬ (cap' : Int) < (tot : Int) := by omega
  have htc : (tot : Int) ≤ (cap' : Int) := by omega
  have hkj : (k1 : Int) ≤ (j : Int) := by omega
  have hit : (i : Int) ≤ (tot : Int) := by omega
  have hkt : (k1 : Int) ≤ (tot : Int) := by omega
  have hkc : (k1 : Int) ≤ (cap' : Int) := by omega
  have htn : (tot : Int) ≤ (n : Int) := by omega
  have htq : tot - k1 = q := by omega
  have hnt : n - tot = 1 := by omega
  have hc3 : ¬ cap' = k1 := by omega
  have hc4 : ¬ cap' = j := by omega
  clear hO hP hv hcl htk hvl hvpl htp hgp hg hn h0 hdl hj htt hk1 hne
  go_enter Tryd.func42, Tryd.ntmps42
  go_wp2
  go_quiet (fail)
  have hgW : (w.drewN nq).heap[g']? = some (.cells cur.toArray 23 (0, 0)) := HG.out
  have hgr0 : w.grownBy (w.drewN nq) (some g') := ⟨rfl, rfl, rfl, Nat.le_refl _, fun _ _ _ => rfl⟩
  go_wp2_with (refine wpList_copy_G rfl _ _ 55 52 rfl 23 Tryd.underlying55 size_rwT g' i (tot - i) (cap' - i) ⟨gp, 0, none⟩ 1 cp rfl rfl cur 23 hgW vsp HS1.out HSP.out HFT.out HVP.out ?_; intro w2 hw2 hg2)
  have hw2' : w2.heap[g']? = some (.cells X1.toArray 23 (0, 0)) := by rw [HX1.out]; exact hw2.out
  have HG2 : Hid (w.grownBy w2 (some g')) := hgr0.trans hg2
  have HW2 : Hid (∀ u : World, u.heap = w2.heap → u.heap[g']? = some (.cells X1.toArray 23 (0, 0))) := fun u hu => by rw [hu]; exact hw2'
  clear hw2 hg2 hgW hgr0 hw2' HX1 HVP HSP HS1
  go_region_law (refine step_copy_G rfl (.tmp 103) (.tmp 106) 55 55 rfl 23 Tryd.underlying55 size_rwT g' k1 q (cap' - k1) ⟨g', j, none⟩ q (cap' - j) (by kernel_rfl) (by kernel_rfl) X1 23 (HW2.out _ rfl) D HDM.out (HSR.out _ (HW2.out _ rfl)) HDF.out HDV.out ?_; intro w3 hw3 hg3)
  all_goals
    have hg3' : w.grownBy w3 (some g') := HG2.out.trans ⟨hg3.os, hg3.tape, hg3.output, hg3.size, hg3.block⟩
    obtain ⟨hclr, o3⟩ := HEND.out w3 hw3.out hg3'
    have HO3 : Hid (OwnT _ _ _ _ _) := o3
    have HG3 : Hid (w.grownBy (w3.setCells g' tot [.slice none 0 0]) (some g')) := hg3'.trans (grown_sets6 _ _ _ _)
    clear o3 hw3 hg3 hg3' HEND
    go_wp2
    go_ret
    exact ⟨_, rfl, HO3.out, HG3.out⟩

/-- slices.Replace of two pages by one. -/
theorem replace2_any {w : World} {B B' g cap i j n : Nat} {vp : Value} {gs ps : List (List Rw)} {vs vsp : List Value} (hO : OwnT w B (.slice (some ⟨g, 0, none⟩) gs.length cap) gs vs) (hP : OwnT w B' vp ps vsp) (hne : ∀ gp, vp.ownBlock = some gp → gp ≠ g) (hn : gs.length = n) (hj : i + 2 = j) (hjn : j ≤ n) (h0 : ps.length = 1) (hb : n ≤ 1000) :
    Calls Tryd.prog 42 #[.slice (some ⟨g, 0, none⟩) n cap, .int .i64 (i : Int), .int .i64 (j : Int), vp] w fun e w' => ∃ v', e = .returned v' ∧ OwnT w' B v' (gs.take i ++ (ps ++ gs.drop j)) (vs.take i ++ (vsp ++ vs.drop j)) ∧ w.grownBy w' (some g) := by
  by_cases e : j = n
  · subst e
    exact replace2_last hO hP hn hj h0 hb
  · exact replace2_mid hO hP hne hn hj (by omega) h0 hb
end Go.Proofs.YticogafoopkflaaDoor
