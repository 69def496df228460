/- Contract of slices.Replace over pages, one of them replaced by some. -/
import Derived.Test.YticogafoopkflaaDoorRepl6a
import Derived.Deep.RegionLaw
import Derived.Deep.Cut
import Derived.BigQuiet
import Derived.Deep.QuietTactic
namespace Go.Proofs.YticogafoopkflaaDoor
open Go.RowKit

theorem info_clear : ∃ i, Tryd.prog.info? 23 = some i ∧ i.zero = some (.slice none 0 0) ∧ i.size = 1 := by
  obtain ⟨i0, hi, hzz, hz1, _⟩ := info_parts info_rwT
  exact ⟨i0, hi, hzz, hz1⟩

theorem clear_none (w : World) (a : Option Addr) (c : Nat) (ty : TypeId) : (Builtin.clear_ #[55] ty #[.slice a 0 c]).run Tryd.prog w = .ok (.tuple #[]) w := by
  cases a <;> simp [Builtin.clear_, run_underlying Tryd.underlying55]

set_option maxRecDepth 100000 in
set_option maxHeartbeats 4000000 in
/-- The last one. -/
theorem replace_last {w : World} {B B' g cap i : Nat} {vp : Value} {gs ps : List (List Rw)} {vs vsp : List Value} (hO : OwnT w B (.slice (some ⟨g, 0, none⟩) gs.length cap) gs vs) (hP : OwnT w B' vp ps vsp) (hi : i + 1 = gs.length) (h0 : 0 < ps.length) (hb : gs.length + ps.length ≤ 1000) (hc : gs.length ≤ cap) (hB : B ≤ w.heap.size) :
    Calls Tryd.prog 42 #[.slice (some ⟨g, 0, none⟩) gs.length cap, .int .i64 (i : Int), .int .i64 ((i : Int) + 1), vp] w fun e w' => ∃ v', e = .returned v' ∧ OwnT w' B v' (gs.take i ++ (ps ++ gs.drop (i + 1))) (vs.take i ++ (vsp ++ vs.drop (i + 1))) ∧ w.grownBy w' (some g) := by
  obtain ⟨ap, cp, rfl⟩ := hP.form
  have HC : Hid (OwnT w B (.slice (some ⟨g, 0, none⟩) i cap) (gs.take i) (vs.take i)) := hO.cut i (by omega)
  have HP : Hid (OwnT w B' (.slice ap ps.length cp) ps vsp) := hP
  have htl : (gs.take i).length = i := by rw [List.length_take]; omega
  have HTL : Hid ((gs.take i).length = i) := htl
  have HD : Hid (gs.drop (i + 1) = [] ∧ vs.drop (i + 1) = []) := ⟨List.drop_eq_nil_of_le (by omega), List.drop_eq_nil_of_le (by have := hO.2.1; omega)⟩
  obtain ⟨n, HN⟩ : ∃ n, Hid (gs.length = n) := ⟨_, rfl⟩
  rw [HN.out] at hi hb hc ⊢
  have hi8 : (i : Int) + 1 = (n : Int) := by omega
  have hi9 : ¬ (i : Int) = (i : Int) + 1 := by omega
  have hi7 : (i : Int) + 1 ≤ (cap : Int) := by omega
  have hi6 : (i : Int) ≤ (i : Int) + 1 := by omega
  have hi5 : (i : Int) ≤ (cap : Int) := by omega
  have hto : ((i : Int) + 1).toNat = i + 1 := by omega
  have hck : (cap == i) = false := by simp; omega
  have hnl : ¬ ((i + ps.length : Nat) : Int) < (n : Int) := by omega
  have hnl2 : ¬ (i : Int) + (ps.length : Int) < (n : Int) := by omega
  rw [HD.out.1, HD.out.2, List.append_nil, List.append_nil]
  clear hO hP htl HD
  go_enter Tryd.func42, Tryd.ntmps42
  go_wp2_with (refine wpList_append_T rfl _ _ rfl B B' (.slice (some ⟨g, 0, none⟩) i cap) (.slice ap ps.length cp) (gs.take i) ps (vs.take i) vsp rfl rfl HC.out HP.out h0 (by rw [HTL.out]; omega) hB ?_; intro v2 w2 o2 g2; obtain ⟨a2, c2, hv2⟩ := o2.form; rw [List.length_append, HTL.out] at hv2; subst hv2; have HO2 : Hid (OwnT _ _ _ _ _) := o2; have HG2 : Hid (World.grownBy _ _ _) := g2; clear o2 g2)
  go_ret
  exact ⟨_, rfl, HO2.out, HG2.out⟩

set_option maxRecDepth 100000 in
set_option maxHeartbeats 4000000 in
/-- One in the midst, by one. -/
theorem replace_one {w : World} {B B' g cap i : Nat} {vp : Value} {gs ps : List (List Rw)} {vs vsp : List Value} (hO : OwnT w B (.slice (some ⟨g, 0, none⟩) gs.length cap) gs vs) (hP : OwnT w B' vp ps vsp) (hne : ∀ gp, vp.ownBlock = some gp → gp ≠ g) (hi : i + 1 < gs.length) (h0 : ps.length = 1) (hb : gs.length ≤ 1000) :
    Calls Tryd.prog 42 #[.slice (some ⟨g, 0, none⟩) gs.length cap, .int .i64 (i : Int), .int .i64 ((i : Int) + 1), vp] w fun e w' => ∃ v', e = .returned v' ∧ OwnT w' B v' (gs.take i ++ (ps ++ gs.drop (i + 1))) (vs.take i ++ (vsp ++ vs.drop (i + 1))) ∧ w.grownBy w' (some g) := by
  obtain ⟨g', cap', cur, hv, hBg, hg, hnc, hcm, hcl, htk⟩ := hO.block (by omega)
  obtain ⟨rfl, rfl⟩ : g' = g ∧ cap' = cap := by
    injection hv with q1 _ q3
    injection q1 with q1
    injection q1 with q1
    exact ⟨q1.symm, q3.symm⟩
  obtain ⟨gp, cp, curp, rfl, _, hgp, _, _, _, htp⟩ := hP.block (by omega)
  have hne' : gp ≠ g' := hne gp rfl
  unfold maxLen at hcm
  have hvl := hO.2.1
  have hvpl := hP.2.1
  obtain ⟨n, HN⟩ : ∃ n, Hid (gs.length = n) := ⟨_, rfl⟩
  have HO : Hid (ValsT w vs gs) := hO.2
  have HP : Hid (ValsT w vsp ps) := hP.2
  rw [HN.out] at hi hb hnc htk hvl ⊢
  rw [h0] at hvpl
  rw [h0]
  have HGL : Hid ((gs.take i ++ (ps ++ gs.drop (i + 1))).length = n) := by show _ = _; simp [h0, HN.out]; omega
  have HCUR : Hid (∀ k, k < n → cur[k]? = vs[k]?) := fun k hk => by rw [← htk, List.getElem?_take_of_lt hk]
  have HSP : Hid (∀ j v, vsp[j]? = some v → w.cell? ((⟨gp, 0, none⟩ : Addr).add j) = some v) := fun j v hj => by
    have hjl := (List.getElem?_eq_some_iff.1 hj).1
    have hcc := World.ownsRow.cellAt hP.1 j (by omega)
    rw [add_cell, Nat.zero_add, hcc]
    exact hj
  have HG : Hid (w.heap[g']? = some (.cells cur.toArray 23 (0, 0))) := hg
  have HF : Hid ((splice (splice cur i vsp) (i + 1) (vs.drop (i + 1))).take n = vs.take i ++ (vsp ++ vs.drop (i + 1))) := by
    have e := splice_two cur vsp (vs.drop (i + 1)) i (by rw [List.length_drop]; omega)
    rw [hvpl, List.length_drop, show i + 1 + (vs.length - (i + 1)) = n by omega] at e
    rw [show vs.take i = cur.take i by rw [← htk, List.take_take]; congr 1; omega]
    exact e
  have HCL : Hid ((splice (splice cur i vsp) (i + 1) (vs.drop (i + 1))).length = cap') := by show _ = _; rw [length_splice _ _ _ (by rw [length_splice _ _ _ (by omega), List.length_drop]; omega), length_splice _ _ _ (by omega)]; exact hcl
  have HVS : Hid (∀ v ∈ vs, v.oneCell' = true) := hO.2.one'
  have HVP : Hid (∀ v ∈ vsp, v.oneCell' = true) := hP.2.one'
  have HSZ : Hid (cur.length = cap' ∧ vs.length = n ∧ vsp.length = 1) := ⟨hcl, hvl, hvpl⟩
  have hn8 : ¬ (i : Int) + 1 = (n : Int) := by omega
  have hi9 : ¬ (i : Int) = (i : Int) + 1 := by omega
  have hi7 : (i : Int) + 1 ≤ (cap' : Int) := by omega
  have hi6 : (i : Int) ≤ (i : Int) + 1 := by omega
  have hi5 : (i : Int) ≤ (cap' : Int) := by omega
  have hi4 : (i : Int) + 1 ≤ (n : Int) := by omega
  have hi3 : (i : Int) ≤ (n : Int) := by omega
  have hto : ((i : Int) + 1).toNat = i + 1 := by omega
  have hwr : IntKind.i64.wrap ((i : Int) + 1) = (i : Int) + 1 := by rw [IntKind.wrap_i64]; omega
  have hck : (cap' == i) = false := by simp; omega
  have hck2 : (cap' == i + 1) = false := by simp; omega
  have hz1 : (0 : Int) ≤ (i : Int) + 1 := by omega
  have htot : (i : Int) + 1 + ((n - (i + 1) : Nat) : Int) = (n : Int) := by omega
  have hwn : IntKind.i64.wrap (n : Int) = (n : Int) := by rw [IntKind.wrap_i64]; omega
  have hnc8 : (n : Int) ≤ (cap' : Int) := by omega
  have hnc9 : ¬ (cap' : Int) < (n : Int) := by omega
  clear hO hP hv hcl htk hvl hvpl htp hgp hg
  go_enter Tryd.func42, Tryd.ntmps42
  go_wp2
  go_quiet (fail)
  have hdl : (vs.drop (i + 1)).length = n - (i + 1) := by rw [List.length_drop, HSZ.out.2.1]
  have HDL : Hid ((vs.drop (i + 1)).length = n - (i + 1)) := hdl
  have HS1 : Hid (1 = Nat.min 1 (n - i)) := by show 1 = min 1 (n - i); omega
  obtain ⟨X1, HX1⟩ : ∃ X1, Hid (X1 = splice cur i vsp) := ⟨_, rfl⟩
  obtain ⟨X2, HX2⟩ : ∃ X2, Hid (X2 = splice X1 (i + 1) (vs.drop (i + 1))) := ⟨_, rfl⟩
  have HX1L : Hid (X1.length = cap') := by show _ = _; rw [HX1.out, length_splice _ _ _ (by have := HSZ.out; omega)]; exact HSZ.out.1
  have HSR : Hid (∀ (u : World), u.heap[g']? = some (.cells X1.toArray 23 (0, 0)) → ∀ j v, (vs.drop (i + 1))[j]? = some v → u.cell? ((⟨g', i + 1, none⟩ : Addr).add j) = some v) := fun u hu j v hj => by
    rw [add_cell, cell_list hu, HX1.out, splice_far (by have := HSZ.out; omega) (by have := HSZ.out; omega)]
    rw [List.getElem?_drop] at hj
    have hjl := (List.getElem?_eq_some_iff.1 hj).1
    rw [HCUR.out _ (by have := HSZ.out; omega)]
    exact hj
  have HTY1 : Hid (∀ u : World, u.heap[g']? = some (.cells X1.toArray 23 (0, 0)) → u.heap[g']? = some (.cells X1.toArray 23 (0, 0))) := fun u h => h
  have hgW : (w.drewN nq).heap[g']? = some (.cells cur.toArray 23 (0, 0)) := HG.out
  have hgr0 : w.grownBy (w.drewN nq) (some g') := ⟨rfl, rfl, rfl, Nat.le_refl _, fun _ _ _ => rfl⟩
  clear hdl
  go_wp2_with (refine wpList_copy_G rfl _ _ 55 52 rfl 23 Tryd.underlying55 size_rwT g' i (n - i) (cap' - i) ⟨gp, 0, none⟩ 1 cp rfl rfl cur 23 hgW vsp (by rw [HSZ.out.2.2]; exact HS1.out) HSP.out (by have := HSZ.out; omega) HVP.out ?_; intro w2 hw2 hg2)
  have hw2' : w2.heap[g']? = some (.cells X1.toArray 23 (0, 0)) := by rw [HX1.out]; exact hw2.out
  have HG2 : Hid (w.grownBy w2 (some g')) := hgr0.trans hg2
  have HW2 : Hid (∀ u : World, u.heap = w2.heap → u.heap[g']? = some (.cells X1.toArray 23 (0, 0))) := fun u hu => by rw [hu]; exact hw2'
  have HDM : Hid ((vs.drop (i + 1)).length = Nat.min (n - (i + 1)) (n - (i + 1))) := by show _ = _; rw [HDL.out]; show _ = min _ _; omega
  have HDF : Hid (i + 1 + (vs.drop (i + 1)).length ≤ X1.length) := by show _ ≤ _; rw [HDL.out, HX1L.out]; omega
  have HDV : Hid (∀ v ∈ vs.drop (i + 1), v.oneCell' = true) := fun v hv => HVS.out v (List.mem_of_mem_drop hv)
  have HEND : Hid (∀ u : World, u.heap[g']? = some (.cells (splice X1 (i + 1) (vs.drop (i + 1))).toArray 23 (0, 0)) → w.grownBy u (some g') → OwnT u B (.slice (some ⟨g', 0, none⟩) n cap') (gs.take i ++ (ps ++ gs.drop (i + 1))) (vs.take i ++ (vsp ++ vs.drop (i + 1)))) := fun u hu hgu => by
    have hv : ValsT u (vs.take i ++ (vsp ++ vs.drop (i + 1))) (gs.take i ++ (ps ++ gs.drop (i + 1))) := ((HO.out.take i).app (HP.out.app (HO.out.drop (i + 1)))).kept hgu HG.out
    have e := ownT_of (gs := gs.take i ++ (ps ++ gs.drop (i + 1))) (cap := cap') hBg hu (by rw [HGL.out]; exact hnc) (by unfold maxLen; omega) (by rw [HX1.out]; exact HCL.out) (by rw [HGL.out, HX1.out]; exact HF.out) hv
    rw [HGL.out] at e
    exact e
  obtain ⟨D, HDE⟩ : ∃ D, Hid (vs.drop (i + 1) = D) := ⟨_, rfl⟩
  rw [HDE.out] at HDM HDF HDV HSR
  clear hw2 hg2 hgW hgr0 hw2' HX1 HX2 HF HCL HCUR HVP HVS HSP HDL HS1 HTY1
  have hck3 : ¬ cap' = i + 1 := by omega
  go_region_law (refine step_copy_G rfl (.tmp 103) (.tmp 106) 55 55 rfl 23 Tryd.underlying55 size_rwT g' (i + 1) (n - (i + 1)) (cap' - (i + 1)) ⟨g', i + 1, none⟩ (n - (i + 1)) (cap' - (i + 1)) (by kernel_rfl) (by kernel_rfl) X1 23 (HW2.out _ rfl) D HDM.out (HSR.out _ (HW2.out _ rfl)) HDF.out HDV.out ?_; intro w3 hw3 hg3)
  all_goals
    have HG3 : Hid (w.grownBy w3 (some g')) := HG2.out.trans ⟨hg3.os, hg3.tape, hg3.output, hg3.size, hg3.block⟩
    have HE : Hid (OwnT _ _ _ _ _) := HEND.out w3 (by rw [HDE.out]; exact hw3.out) HG3.out
    clear hw3 hg3
    have CLN := fun (u : World) (a : Option Addr) (c : Nat) => clear_none u a c 0
    by_cases hcn : cap' = n
    · subst hcn
      go_wp2
      go_ret
      exact ⟨_, rfl, HE.out, HG3.out⟩
    · have hcn2 : (cap' == n) = false := by simpa using hcn
      go_wp2
      go_ret
      exact ⟨_, rfl, HE.out, HG3.out⟩
theorem sizeOf_rwT : ∀ w, (Go.sizeOf 23).run Tryd.prog w = .ok 1 w := by
  obtain ⟨i0, hi, hzz, hz1⟩ := info_clear
  intro w
  simp [sizeOf, typeInfo, hi, hz1]

theorem overlaps_no {u : World} {g' gp off la ca lb cb : Nat} {X Y : List Value} (hg : u.heap[g']? = some (.cells X.toArray 23 (0, 0))) (hp : u.heap[gp]? = some (.cells Y.toArray 23 (0, 0))) (hne : gp ≠ g') (hY : Y.length ≠ 0) :
    (callFunc 73 #[.slice (some ⟨g', off, none⟩) la ca, .slice (some ⟨gp, 0, none⟩) lb cb]).run Tryd.prog u = .ok (.value (.bool false)) u := by
  rw [run_callFunc_extern Tryd.func73 (by kernel_rfl) (by kernel_rfl) (by kernel_rfl) (e := Extern.SlicesOverlaps.overlaps #[52, 52] #[4]) (by kernel_rfl),
    Lib.run_overlaps_apart u 52 4 23 Tryd.underlying52 1 sizeOf_rwT ⟨g', off, none⟩ ⟨gp, 0, none⟩ la ca lb cb (fun e => hne e.symm) 23 23 X.length Y.length (by simp [World.shape?, hg]) (by simp [World.shape?, hp]) hY (by simp [World.frozen?, hg]) (by simp [World.frozen?, hg])]
  rfl

set_option maxRecDepth 100000 in
set_option maxHeartbeats 4000000 in
/-- One in the midst, by more, where there is room. -/
theorem replace_more {w : World} {B B' g cap i : Nat} {vp : Value} {gs ps : List (List Rw)} {vs vsp : List Value} (hO : OwnT w B (.slice (some ⟨g, 0, none⟩) gs.length cap) gs vs) (hP : OwnT w B' vp ps vsp) (hne : ∀ gp, vp.ownBlock = some gp → gp ≠ g) (hi : i + 1 < gs.length) (h0 : 2 ≤ ps.length) (hb : gs.length + ps.length ≤ 1000) (hcap : gs.length - 1 + ps.length ≤ cap) :
    Calls Tryd.prog 42 #[.slice (some ⟨g, 0, none⟩) gs.length cap, .int .i64 (i : Int), .int .i64 ((i : Int) + 1), vp] w fun e w' => ∃ v', e = .returned v' ∧ OwnT w' B v' (gs.take i ++ (ps ++ gs.drop (i + 1))) (vs.take i ++ (vsp ++ vs.drop (i + 1))) ∧ w.grownBy w' (some g) := by
  obtain ⟨g', cap', cur, hv, hBg, hg, hnc, hcm, hcl, htk⟩ := hO.block (by omega)
  obtain ⟨rfl, rfl⟩ : g' = g ∧ cap' = cap := by
    injection hv with q1 _ q3
    injection q1 with q1
    injection q1 with q1
    exact ⟨q1.symm, q3.symm⟩
  obtain ⟨gp, cp, curp, rfl, _, hgp, hpc, _, hpl, htp⟩ := hP.block (by omega)
  have hne' : gp ≠ g' := hne gp rfl
  unfold maxLen at hcm
  have hvl := hO.2.1
  have hvpl := hP.2.1
  obtain ⟨n, HN⟩ : ∃ n, Hid (gs.length = n) := ⟨_, rfl⟩
  have HO : Hid (ValsT w vs gs) := hO.2
  have HP : Hid (ValsT w vsp ps) := hP.2
  obtain ⟨m, HM⟩ : ∃ m, Hid (ps.length = m) := ⟨_, rfl⟩
  have hpl0 : curp.length ≠ 0 := by omega
  rw [HN.out] at hi hb hnc htk hvl hcap ⊢
  rw [HM.out] at hvpl h0 hb hcap ⊢
  obtain ⟨q, HQ⟩ : ∃ q, Hid (q = n - (i + 1)) := ⟨_, rfl⟩
  obtain ⟨tot, HT⟩ : ∃ tot, Hid (tot = i + m + q) := ⟨_, rfl⟩
  obtain ⟨im, HIM⟩ : ∃ im, Hid (im = i + m) := ⟨_, rfl⟩
  have HGL : Hid ((gs.take i ++ (ps ++ gs.drop (i + 1))).length = tot) := by show _ = _; rw [HT.out, HQ.out]; simp [HM.out, HN.out]; omega
  have HCUR : Hid (∀ k, k < n → cur[k]? = vs[k]?) := fun k hk => by rw [← htk, List.getElem?_take_of_lt hk]
  have HSP : Hid (∀ j v, vsp[j]? = some v → w.cell? ((⟨gp, 0, none⟩ : Addr).add j) = some v) := fun j v hj => by
    have hjl := (List.getElem?_eq_some_iff.1 hj).1
    have hcc := World.ownsRow.cellAt hP.1 j (by rw [HM.out]; omega)
    rw [add_cell, Nat.zero_add, hcc]
    exact hj
  have HG : Hid (w.heap[g']? = some (.cells cur.toArray 23 (0, 0))) := hg
  have HOV : Hid (∀ (u : World) (off la ca : Nat), u.heap = w.heap → (callFunc 73 #[.slice (some ⟨g', off, none⟩) la ca, .slice (some ⟨gp, 0, none⟩) m cp]).run Tryd.prog u = .ok (.value (.bool false)) u) := fun u off la ca hu => overlaps_no (by rw [hu]; exact hg) (by rw [hu]; exact hgp) hne' hpl0
  have hqv : (vs.drop (i + 1)).length = q := by rw [List.length_drop, HQ.out]; omega
  have hlen3 : i + vsp.length + (vs.drop (i + 1)).length ≤ cur.length := by rw [hqv, hvpl, HQ.out]; omega
  have HF : Hid ((splice (splice cur (i + m) (vs.drop (i + 1))) i vsp).take tot = vs.take i ++ (vsp ++ vs.drop (i + 1))) := by
    have e := splice_two' cur vsp (vs.drop (i + 1)) i hlen3
    rw [hvpl, hqv, ← HT.out] at e
    rw [show vs.take i = cur.take i by rw [← htk, List.take_take]; congr 1; omega]
    exact e
  have HCL : Hid ((splice (splice cur (i + m) (vs.drop (i + 1))) i vsp).length = cap') := by
    show _ = _
    have e1 : (splice cur (i + m) (vs.drop (i + 1))).length = cur.length := length_splice _ _ _ (by omega)
    rw [length_splice _ _ _ (by rw [e1]; omega), e1]
    exact hcl
  have HVS : Hid (∀ v ∈ vs, v.oneCell' = true) := hO.2.one'
  have HVP : Hid (∀ v ∈ vsp, v.oneCell' = true) := hP.2.one'
  have HSZ : Hid (cur.length = cap' ∧ vs.length = n ∧ vsp.length = m ∧ (vs.drop (i + 1)).length = q) := ⟨hcl, hvl, hvpl, hqv⟩
  have hq := HQ.out
  have htt := HT.out
  have hmm := HIM.out
  have hn8 : ¬ (i : Int) + 1 = (n : Int) := by omega
  have hi9 : ¬ (i : Int) = (i : Int) + 1 := by omega
  have hi7 : (i : Int) + 1 ≤ (cap' : Int) := by omega
  have hi6 : (i : Int) ≤ (i : Int) + 1 := by omega
  have hi5 : (i : Int) ≤ (cap' : Int) := by omega
  have hi4 : (i : Int) + 1 ≤ (n : Int) := by omega
  have hi3 : (i : Int) ≤ (n : Int) := by omega
  have hto : ((i : Int) + 1).toNat = i + 1 := by omega
  have hwr : IntKind.i64.wrap ((i : Int) + 1) = (i : Int) + 1 := by rw [IntKind.wrap_i64]; omega
  have hck : (cap' == i) = false := by simp; omega
  have hck2 : (cap' == i + 1) = false := by simp; omega
  have hz1 : (0 : Int) ≤ (i : Int) + 1 := by omega
  have him : (i : Int) + (m : Int) = (im : Int) := by omega
  have htot : (im : Int) + (q : Int) = (tot : Int) := by omega
  have hqq : n - (i + 1) = q := by omega
  have hwim : IntKind.i64.wrap (im : Int) = (im : Int) := by rw [IntKind.wrap_i64]; omega
  have hwt : IntKind.i64.wrap (tot : Int) = (tot : Int) := by rw [IntKind.wrap_i64]; omega
  have htc8 : (tot : Int) ≤ (cap' : Int) := by omega
  have htc9 : ¬ (cap' : Int) < (tot : Int) := by omega
  have hgt : ¬ (im : Int) ≤ (i : Int) + 1 := by omega
  have hit : (i : Int) ≤ (tot : Int) := by omega
  have himt : (im : Int) ≤ (tot : Int) := by omega
  have himc : (im : Int) ≤ (cap' : Int) := by omega
  have hck4 : (cap' == im) = false := by simp; omega
  have hck5 : ¬ cap' = im := by omega
  have hck6 : ¬ cap' = i + 1 := by omega
  have htq : tot - im = q := by omega
  have HHQ : Hid (q = n - (i + 1) ∧ tot = i + m + q ∧ im = i + m) := ⟨hq, htt, hmm⟩
  clear hO hP hv hcl htk hvl hvpl htp hgp hg hq htt hmm hqv hlen3 hpl0 hpl
  go_enter Tryd.func42, Tryd.ntmps42
  go_wp2
  go_quiet (fail)
  have OV := fun (off la ca : Nat) => HOV.out (w.drewN nq) off la ca rfl
  go_wp2
  obtain ⟨D, HDE⟩ : ∃ D, Hid (vs.drop (i + 1) = D) := ⟨_, rfl⟩
  have HDL : Hid (D.length = q) := by show _ = _; rw [← HDE.out]; exact HSZ.out.2.2.2
  have HDM : Hid (D.length = Nat.min q q) := by show _ = min q q; rw [HDL.out]; omega
  have HDF : Hid (im + D.length ≤ cur.length) := by show _ ≤ _; rw [HDL.out, HSZ.out.1]; omega
  have HDV : Hid (∀ v ∈ D, v.oneCell' = true) := fun v hv => HVS.out v (List.mem_of_mem_drop (by rw [HDE.out]; exact hv))
  have HSR : Hid (∀ (u : World), u.heap = w.heap → ∀ j v, D[j]? = some v → u.cell? ((⟨g', i + 1, none⟩ : Addr).add j) = some v) := fun u hu j v hj => by
    rw [add_cell, cell_list (show u.heap[g']? = _ by rw [hu]; exact HG.out)]
    rw [← HDE.out, List.getElem?_drop] at hj
    have hjl := (List.getElem?_eq_some_iff.1 hj).1
    rw [HCUR.out _ (by have := HSZ.out.2.1; omega)]
    exact hj
  have HW0 : Hid (∀ u : World, u.heap = w.heap → u.heap[g']? = some (.cells cur.toArray 23 (0, 0))) := fun u hu => by rw [hu]; exact HG.out
  obtain ⟨X1, HX1⟩ : ∃ X1, Hid (X1 = splice cur im D) := ⟨_, rfl⟩
  have HX1L : Hid (X1.length = cap') := by show _ = _; rw [HX1.out, length_splice _ _ _ HDF.out]; exact HSZ.out.1
  have HEND : Hid (∀ u : World, u.heap[g']? = some (.cells (splice X1 i vsp).toArray 23 (0, 0)) → w.grownBy u (some g') → OwnT u B (.slice (some ⟨g', 0, none⟩) tot cap') (gs.take i ++ (ps ++ gs.drop (i + 1))) (vs.take i ++ (vsp ++ vs.drop (i + 1)))) := fun u hu hgu => by
    have hv : ValsT u (vs.take i ++ (vsp ++ vs.drop (i + 1))) (gs.take i ++ (ps ++ gs.drop (i + 1))) := ((HO.out.take i).app (HP.out.app (HO.out.drop (i + 1)))).kept hgu HG.out
    have hx : splice X1 i vsp = splice (splice cur (i + m) (vs.drop (i + 1))) i vsp := by rw [HX1.out, HDE.out, HHQ.out.2.2]
    have e := ownT_of (gs := gs.take i ++ (ps ++ gs.drop (i + 1))) (cap := cap') hBg hu (by rw [HGL.out]; omega) (by unfold maxLen; omega) (by rw [hx]; exact HCL.out) (by rw [HGL.out, hx]; exact HF.out) hv
    rw [HGL.out] at e
    exact e
  have HS1 : Hid (vsp.length = Nat.min m (tot - i)) := by show _ = min m (tot - i); rw [HSZ.out.2.2.1]; have := HHQ.out; omega
  have HVF : Hid (i + vsp.length ≤ X1.length) := by show _ ≤ _; rw [HX1L.out, HSZ.out.2.2.1]; have := HHQ.out; omega
  have HGP : Hid (gp < w.heap.size) := by
    cases hv0 : vsp with
    | nil => have := HSZ.out.2.2.1; rw [hv0] at this; simp at this; omega
    | cons v0 r0 => exact rw_cell_lt (by have := HSP.out 0 v0 (by rw [hv0]; rfl); rw [add_cell] at this; exact this)
  clear OV HOV HF HCL HCUR HVS
  go_region_law (refine step_copy_G rfl (.tmp 126) (.tmp 129) 55 55 rfl 23 Tryd.underlying55 size_rwT g' im q (cap' - im) ⟨g', i + 1, none⟩ q (cap' - (i + 1)) (by kernel_rfl) (by kernel_rfl) cur 23 (HW0.out _ rfl) D HDM.out (HSR.out _ rfl) HDF.out HDV.out ?_; intro w2 hw2 hg2)
  all_goals
    have hw2' : w2.heap[g']? = some (.cells X1.toArray 23 (0, 0)) := by rw [HX1.out]; exact hw2.out
    have HG2 : Hid (w.grownBy w2 (some g')) := ⟨hg2.os, hg2.tape, hg2.output, hg2.size, hg2.block⟩
    have HSP2 : Hid (∀ j v, vsp[j]? = some v → w2.cell? ((⟨gp, 0, none⟩ : Addr).add j) = some v) := fun j v hj => by
      rw [add_cell]
      have h1 := HSP.out j v hj
      rw [add_cell] at h1
      exact (World.cell?_of_block (HG2.out.block gp HGP.out (fun e => hne' (Option.some.inj e)))).trans h1
    clear hw2 hg2 HSP HX1 HDM HDF HDV HSR HW0
    go_wp2_with (refine wpList_copy_G rfl _ _ 55 52 rfl 23 Tryd.underlying55 size_rwT g' i (tot - i) (cap' - i) ⟨gp, 0, none⟩ m cp rfl rfl X1 23 hw2' vsp HS1.out HSP2.out HVF.out HVP.out ?_; intro w3 hw3 hg3; have HG3 : Hid (w.grownBy w3 (some g')) := HG2.out.trans hg3; have HE : Hid (OwnT _ _ _ _ _) := HEND.out w3 hw3.out HG3.out; clear hw3 hg3)
    go_ret
    exact ⟨_, rfl, HE.out, HG3.out⟩

end Go.Proofs.YticogafoopkflaaDoor
