/- Contract of slices.Replace over pages, whole. -/
import Derived.Test.YticogafoopkflaaDoorRepl6
namespace Go.Proofs.YticogafoopkflaaDoor
open Go.RowKit

set_option maxRecDepth 100000 in
set_option maxHeartbeats 4000000 in
/-- One in the midst, by more than there is room for. -/
theorem replace_grow {w : World} {B B' g cap i : Nat} {vp : Value} {gs ps : List (List Rw)} {vs vsp : List Value} (hO : OwnT w B (.slice (some ⟨g, 0, none⟩) gs.length cap) gs vs) (hP : OwnT w B' vp ps vsp) (hne : ∀ gp, vp.ownBlock = some gp → gp ≠ g) (hi : i + 1 < gs.length) (h0 : 2 ≤ ps.length) (hb : gs.length + ps.length ≤ 200) (hcap : cap < gs.length - 1 + ps.length) (hB : B ≤ w.heap.size) :
    Calls Tryd.prog 42 #[.slice (some ⟨g, 0, none⟩) gs.length cap, .int .i64 (i : Int), .int .i64 ((i : Int) + 1), vp] w fun e w' => ∃ v', e = .returned v' ∧ OwnT w' B v' (gs.take i ++ (ps ++ gs.drop (i + 1))) (vs.take i ++ (vsp ++ vs.drop (i + 1))) ∧ w.grownBy w' (some g) := by
  obtain ⟨g', cap', cur, hv, hBg, hg, hnc, hcm, hcl, htk⟩ := hO.block (by omega)
  obtain ⟨rfl, rfl⟩ : g' = g ∧ cap' = cap := by
    injection hv with q1 _ q3
    injection q1 with q1
    injection q1 with q1
    exact ⟨q1.symm, q3.symm⟩
  obtain ⟨gp, cp, curp, rfl, _, hgp, hpc, _, hpl, htp⟩ := hP.block (by omega)
  have hne' : gp ≠ g' := hne gp rfl
  unfold maxLen at hcm
  have hvl := hO.2.1
  have hvpl := hP.2.1
  obtain ⟨n, HN⟩ : ∃ n, Hid (gs.length = n) := ⟨_, rfl⟩
  have HO : Hid (ValsT w vs gs) := hO.2
  have HP : Hid (ValsT w vsp ps) := hP.2
  obtain ⟨m, HM⟩ : ∃ m, Hid (ps.length = m) := ⟨_, rfl⟩
  have hpl0 : curp.length ≠ 0 := by omega
  rw [HN.out] at hi hb hnc htk hvl hcap ⊢
  rw [HM.out] at hvpl h0 hb hcap ⊢
  obtain ⟨q, HQ⟩ : ∃ q, Hid (q = n - (i + 1)) := ⟨_, rfl⟩
  obtain ⟨tot, HT⟩ : ∃ tot, Hid (tot = i + m + q) := ⟨_, rfl⟩
  obtain ⟨im, HIM⟩ : ∃ im, Hid (im = i + m) := ⟨_, rfl⟩
  have HGL : Hid ((gs.take i ++ (ps ++ gs.drop (i + 1))).length = tot) := by show _ = _; rw [HT.out, HQ.out]; simp [HM.out, HN.out]; omega
  have HCUR : Hid (∀ k, k < n → cur[k]? = vs[k]?) := fun k hk => by rw [← htk, List.getElem?_take_of_lt hk]
  have HSP : Hid (∀ j v, vsp[j]? = some v → w.cell? ((⟨gp, 0, none⟩ : Addr).add j) = some v) := fun j v hj => by
    have hjl := (List.getElem?_eq_some_iff.1 hj).1
    have hcc := World.ownsRow.cellAt hP.1 j (by rw [HM.out]; omega)
    rw [add_cell, Nat.zero_add, hcc]
    exact hj
  have HG : Hid (w.heap[g']? = some (.cells cur.toArray 23 (0, 0))) := hg
  have hqv : (vs.drop (i + 1)).length = q := by rw [List.length_drop, HQ.out]; omega
  have HVS : Hid (∀ v ∈ vs, v.oneCell' = true) := hO.2.one'
  have HVP : Hid (∀ v ∈ vsp, v.oneCell' = true) := hP.2.one'
  have HSZ : Hid (cur.length = cap' ∧ vs.length = n ∧ vsp.length = m ∧ (vs.drop (i + 1)).length = q) := ⟨hcl, hvl, hvpl, hqv⟩
  have hq := HQ.out
  have htt := HT.out
  have hmm := HIM.out
  have hn8 : ¬ (i : Int) + 1 = (n : Int) := by omega
  have hi9 : ¬ (i : Int) = (i : Int) + 1 := by omega
  have hi7 : (i : Int) + 1 ≤ (cap' : Int) := by omega
  have hi6 : (i : Int) ≤ (i : Int) + 1 := by omega
  have hi5 : (i : Int) ≤ (cap' : Int) := by omega
  have hi4 : (i : Int) + 1 ≤ (n : Int) := by omega
  have hi3 : (i : Int) ≤ (n : Int) := by omega
  have hto : ((i : Int) + 1).toNat = i + 1 := by omega
  have hwr : IntKind.i64.wrap ((i : Int) + 1) = (i : Int) + 1 := by rw [IntKind.wrap_i64]; omega
  have hck : (cap' == i) = false := by simp; omega
  have hck2 : (cap' == i + 1) = false := by simp; omega
  have hz1 : (0 : Int) ≤ (i : Int) + 1 := by omega
  have him : (i : Int) + (m : Int) = (im : Int) := by omega
  have htot : (im : Int) + (q : Int) = (tot : Int) := by omega
  have hqq : n - (i + 1) = q := by omega
  have hwim : IntKind.i64.wrap (im : Int) = (im : Int) := by rw [IntKind.wrap_i64]; omega
  have hwt : IntKind.i64.wrap (tot : Int) = (tot : Int) := by rw [IntKind.wrap_i64]; omega
  have htc9 : (cap' : Int) < (tot : Int) := by omega
  have hti : (tot : Int) - (i : Int) = ((tot - i : Nat) : Int) := by omega
  have hgt : ¬ (im : Int) ≤ (i : Int) + 1 := by omega
  have hit : (i : Int) ≤ (tot : Int) := by omega
  have himt : (im : Int) ≤ (tot : Int) := by omega
  have hck6 : ¬ cap' = i + 1 := by omega
  have htq : tot - im = q := by omega
  have HHQ : Hid (q = n - (i + 1) ∧ tot = i + m + q ∧ im = i + m) := ⟨hq, htt, hmm⟩
  clear hO hP hv hcl htk hvl hvpl htp hgp hg hq htt hmm hqv hpl0 hpl
  go_enter Tryd.func42, Tryd.ntmps42
  go_wp2
  go_quiet (fail)
  have hvi : (vs.take i).length = i := by rw [List.length_take, HSZ.out.2.1]; omega
  have HVI : Hid ((vs.take i).length = i) := hvi
  have HOLD : Hid (∀ j v, (vs.take i)[j]? = some v → (w.drewN nq).cell? ((⟨g', 0, none⟩ : Addr).add j) = some v) := fun j v hj => by
    have hjl := (List.getElem?_eq_some_iff.1 hj).1
    rw [HVI.out] at hjl
    rw [List.getElem?_take_of_lt hjl] at hj
    rw [add_cell, Nat.zero_add, cell_list (show (w.drewN nq).heap[g']? = _ from HG.out), HCUR.out _ (by omega)]
    exact hj
  have hk0 : 0 < tot - i := by have := HHQ.out; omega
  have hk1 : cap' < i + (tot - i) := by have := HHQ.out; omega
  have hk2 : i + (tot - i) ≤ 255 := by have := HHQ.out; omega
  have hk3 : i + (tot - i) = tot := by have := HHQ.out; omega
  clear hvi
  go_upto_region 12 with (refine wpList_zeros_T rfl _ _ rfl g' i cap' (tot - i) (vs.take i) rfl rfl HVI.out HOLD.out hk0 hk1 hk2 ?_; intro Z cap2 w1 HZ hz1 hz2 HW1 hb1)
  have hgl' : g' < w.heap.size := (Array.getElem?_eq_some_iff.1 HG.out).1
  have HGP : Hid (gp < w.heap.size) := by
    cases hv0 : vsp with
    | nil => have := HSZ.out.2.2.1; rw [hv0] at this; simp at this; omega
    | cons v0 r0 => exact rw_cell_lt (by have := HSP.out 0 v0 (by rw [hv0]; rfl); rw [add_cell] at this; exact this)
  have hb1' : Below w.heap.size w w1 := ⟨hb1.os, hb1.tape, hb1.output, hb1.size, hb1.block⟩
  have hW1 : w1.heap[w.heap.size]? = some (.cells Z.toArray 23 (0, 0)) := HW1.out
  obtain ⟨D, HDE⟩ : ∃ D, Hid (vs.drop (i + 1) = D) := ⟨_, rfl⟩
  have HDL : Hid (D.length = q) := by show _ = _; rw [← HDE.out]; exact HSZ.out.2.2.2
  have HDM : Hid (D.length = Nat.min q q) := by show _ = min q q; rw [HDL.out]; omega
  have HDV : Hid (∀ v ∈ D, v.oneCell' = true) := fun v hv => HVS.out v (List.mem_of_mem_drop (by rw [HDE.out]; exact hv))
  obtain ⟨X1, HX1⟩ : ∃ X1, Hid (X1 = splice Z i vsp) := ⟨_, rfl⟩
  have htc : tot ≤ cap2 := by omega
  have HS1 : Hid (vsp.length = Nat.min m (tot - i)) := by show _ = min m (tot - i); rw [HSZ.out.2.2.1]; have := HHQ.out; omega
  have HVF : Hid (i + vsp.length ≤ Z.length) := by show _ ≤ _; rw [HZ.out.1, HSZ.out.2.2.1]; have := HHQ.out; omega
  have HX1L : Hid (X1.length = cap2) := by show _ = _; rw [HX1.out, length_splice _ _ _ HVF.out]; exact HZ.out.1
  have HDF : Hid (im + D.length ≤ X1.length) := by show _ ≤ _; rw [HDL.out, HX1L.out]; have := HHQ.out; omega
  have HSR : Hid (∀ (u : World), u.heap[g']? = w.heap[g']? → ∀ j v, D[j]? = some v → u.cell? ((⟨g', i + 1, none⟩ : Addr).add j) = some v) := fun u hu j v hj => by
    rw [add_cell, cell_list (hu.trans HG.out)]
    rw [← HDE.out, List.getElem?_drop] at hj
    have hjl := (List.getElem?_eq_some_iff.1 hj).1
    rw [HCUR.out _ (by have := HSZ.out.2.1; omega)]
    exact hj
  have HSP1 : Hid (∀ j v, vsp[j]? = some v → w1.cell? ((⟨gp, 0, none⟩ : Addr).add j) = some v) := fun j v hj => by
    have h1 := HSP.out j v hj
    rw [add_cell] at h1 ⊢
    exact (hb1'.cell (p := ⟨gp, 0 + j, none⟩) HGP.out).trans h1
  have HEND : Hid (∀ u : World, u.heap[w.heap.size]? = some (.cells (splice X1 im D).toArray 23 (0, 0)) → w1.grownBy u (some w.heap.size) → OwnT u B (.slice (some ⟨w.heap.size, 0, none⟩) tot cap2) (gs.take i ++ (ps ++ gs.drop (i + 1))) (vs.take i ++ (vsp ++ vs.drop (i + 1)))) := fun u hu hgu => by
    have hv1 : ValsT w1 (vs.take i ++ (vsp ++ vs.drop (i + 1))) (gs.take i ++ (ps ++ gs.drop (i + 1))) := ((HO.out.take i).app (HP.out.app (HO.out.drop (i + 1)))).below hb1' (Nat.le_refl _)
    have hv := hv1.kept hgu hW1
    have hl3 : i + vsp.length + D.length ≤ Z.length := by rw [HDL.out, HSZ.out.2.2.1, HZ.out.1]; have := HHQ.out; omega
    have hx : splice X1 im D = splice (splice Z i vsp) (i + vsp.length) D := by rw [HX1.out, HHQ.out.2.2, HSZ.out.2.2.1]
    have hxl : (splice X1 im D).length = cap2 := by rw [length_splice _ _ _ HDF.out]; exact HX1L.out
    have e := ownT_of (gs := gs.take i ++ (ps ++ gs.drop (i + 1))) (vs := vs.take i ++ (vsp ++ vs.drop (i + 1))) (cap := cap2) hB hu (by rw [HGL.out]; exact htc) hz2 hxl (by
      rw [HGL.out, hx, show tot = i + vsp.length + D.length by rw [HDL.out, HSZ.out.2.2.1]; exact HHQ.out.2.1, splice_two _ _ _ _ hl3, HZ.out.2, HDE.out]) hv
    rw [HGL.out] at e
    exact e
  have hci : (cap2 == i) = false := by simp; omega
  have hcm2 : ¬ cap2 = im := by have := HHQ.out; omega
  have hcm3 : (cap2 == im) = false := by have := HHQ.out; simp; omega
  have hic2 : (i : Int) ≤ (cap2 : Int) := by omega
  have himc2 : (im : Int) ≤ (cap2 : Int) := by have := HHQ.out; omega
  clear hb1 HOLD hk0 hk1 hk2 HVI HVS HCUR HSP HZ
  go_upto_region 13 with (refine wpList_copy_G rfl _ _ 55 52 rfl 23 Tryd.underlying55 size_rwT w.heap.size i (tot - i) (cap2 - i) ⟨gp, 0, none⟩ m cp rfl rfl Z 23 hW1 vsp HS1.out HSP1.out HVF.out HVP.out ?_; intro w2 hw2 hg2)
  have hw2' : w2.heap[w.heap.size]? = some (.cells X1.toArray 23 (0, 0)) := by rw [HX1.out]; exact hw2.out
  have HG2 : Hid (w1.grownBy w2 (some w.heap.size)) := hg2
  have HW2 : Hid (∀ u : World, u.heap = w2.heap → u.heap[w.heap.size]? = some (.cells X1.toArray 23 (0, 0))) := fun u hu => by rw [hu]; exact hw2'
  have HW3 : Hid (∀ u : World, u.heap = w2.heap → u.heap[g']? = w.heap[g']?) := fun u hu => by
    rw [hu, HG2.out.block g' (Nat.lt_of_lt_of_le hgl' hb1'.size) (fun e => by have := Option.some.inj e; omega)]
    exact hb1'.block g' hgl'
  have HB1 : Hid (Below w.heap.size w w1) := hb1'
  clear hw2 hg2 hw2' hW1 HW1 hb1' HSP1 HX1
  go_region_law (refine step_copy_G rfl (.tmp 78) (.tmp 81) 55 55 rfl 23 Tryd.underlying55 size_rwT w.heap.size im q (cap2 - im) ⟨g', i + 1, none⟩ q (cap' - (i + 1)) (by kernel_rfl) (by kernel_rfl) X1 23 (HW2.out _ rfl) D HDM.out (HSR.out _ (HW3.out _ rfl)) HDF.out HDV.out ?_; intro w3 hw3 hg3)
  all_goals
    have hg3' : w2.grownBy w3 (some w.heap.size) := ⟨hg3.os, hg3.tape, hg3.output, hg3.size, hg3.block⟩
    have HE : Hid (OwnT _ _ _ _ _) := HEND.out w3 hw3.out (HG2.out.trans hg3')
    have HB3 : Hid (Below w.heap.size w w3) := Below.grown (Below.grown HB1.out HG2.out HB1.out.size (fun j hj => by have := Option.some.inj hj; omega)) hg3' (Nat.le_trans HB1.out.size HG2.out.size) (fun j hj => by have := Option.some.inj hj; omega)
    have HG3 : Hid (w.grownBy w3 (some g')) := ⟨HB3.out.os, HB3.out.tape, HB3.out.output, HB3.out.size, fun k hk _ => HB3.out.block k hk⟩
    clear hw3 hg3 hg3'
    go_wp2
    go_ret
    exact ⟨_, rfl, HE.out, HG3.out⟩

theorem replace_any {w : World} {B B' g cap i : Nat} {vp : Value} {gs ps : List (List Rw)} {vs vsp : List Value} (hO : OwnT w B (.slice (some ⟨g, 0, none⟩) gs.length cap) gs vs) (hP : OwnT w B' vp ps vsp) (hne : ∀ gp, vp.ownBlock = some gp → gp ≠ g) (hi : i < gs.length) (h0 : 0 < ps.length) (hb : gs.length + ps.length ≤ 200) (hB : B ≤ w.heap.size) :
    Calls Tryd.prog 42 #[.slice (some ⟨g, 0, none⟩) gs.length cap, .int .i64 (i : Int), .int .i64 ((i : Int) + 1), vp] w fun e w' => ∃ v', e = .returned v' ∧ OwnT w' B v' (gs.take i ++ (ps ++ gs.drop (i + 1))) (vs.take i ++ (vsp ++ vs.drop (i + 1))) ∧ w.grownBy w' (some g) := by
  have hc : gs.length ≤ cap := by
    rcases hO.1.2 with ⟨q, _⟩ | ⟨g', cap', cur, q, _, _, q3, _⟩
    · cases q
    · cases q
      exact q3
  by_cases h1 : i + 1 = gs.length
  · exact replace_last hO hP h1 h0 (by omega) hc hB
  · by_cases h2 : ps.length = 1
    · exact replace_one hO hP hne (by omega) h2 (by omega)
    · by_cases h3 : gs.length - 1 + ps.length ≤ cap
      · exact replace_more hO hP hne (by omega) (by omega) (by omega) h3
      · exact replace_grow hO hP hne (by omega) (by omega) hb (by omega) hB
end Go.Proofs.YticogafoopkflaaDoor
