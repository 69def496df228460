/- Contract of the program's drawTogether. -/
import Derived.Test.YticogafoopkflaaDoorRepl62
import Derived.Test.YticogafoopkflaaDoorConc6
import Derived.Test.YticogafoopkflaaDoorIWithin6
import Derived.Test.YticogafoopkflaaDoorPDropA
import Derived.Deep.RegionLaw
namespace Go.Proofs.YticogafoopkflaaDoor
open Go.RowKit

theorem below_grown6 {w u : World} {g : Nat} (h : Below w.heap.size w u) : w.grownBy u (some g) := ⟨h.os, h.tape, h.output, h.size, fun k hk _ => h.block k hk⟩

theorem ints2_new (w : World) (x y : Int) : (w.alloc (.cells #[.int .i64 x, .int .i64 y] 3)).heap[w.heap.size]? = some (.cells #[.int .i64 x, .int .i64 y] 3) := heap_alloc_new w _

theorem rwb_app {a b : List Rw} (ha : RwB a) (hb : RwB b) (hl : a.length + b.length ≤ 255) : RwB (a ++ b) := ⟨by rw [List.length_append]; exact hl, fun x hx => by
  rcases List.mem_append.1 hx with hx | hx
  · exact ha.2 x hx
  · exact hb.2 x hx⟩

theorem OwnT.at {w : World} {B g cap k : Nat} {gs : List (List Rw)} {vs : List Value} {l : List Rw} (h : OwnT w B (.slice (some ⟨g, 0, none⟩) gs.length cap) gs vs) (hl : gs[k]? = some l) : ∃ a c, w.cell? ⟨g, k, none⟩ = some (.slice a l.length c) ∧ SlT w a l := by
  obtain ⟨v, hv, a, c, rfl, hs⟩ := h.2.2 k l hl
  have hk := (List.getElem?_eq_some_iff.1 hl).1
  refine ⟨a, c, ?_, hs⟩
  have := World.ownsRow.cellAt h.1 k (by omega)
  rw [hv] at this
  simpa using this

def DrRel (gs : List (List Rw)) (k : Nat) (l : List Rw) (t : Nat) : Prop :=
  (1 ≤ t → ∀ a, 0 < k → gs[k - 1]? = some a → ¬ lnP (a ++ l) ≤ 300) ∧ (2 ≤ t → ∀ b, gs[k + 1]? = some b → ¬ lnP (l ++ b) ≤ 300)

set_option maxRecDepth 100000 in
set_option maxHeartbeats 16000000 in
theorem drawTogether_any {w : World} {B g cap k : Nat} {gs : List (List Rw)} {vs : List Value} {l : List Rw} (hO : OwnT w B (.slice (some ⟨g, 0, none⟩) gs.length cap) gs vs) (hl : gs[k]? = some l) (hgl : gs.length ≤ 1000) (hz : ∀ q ∈ gs, RwB q ∧ q.length ≤ 60) :
    Calls Tryd.prog 52 #[.slice (some ⟨g, 0, none⟩) gs.length cap, .int .i64 (k : Int)] w fun e w' => ∃ v' vs', e = .returned v' ∧ OwnT w' B v' (dropG gs k l) vs' ∧ w.grownBy w' (some g) := by
  have hk := (List.getElem?_eq_some_iff.1 hl).1
  have HO : Hid (OwnT w B (.slice (some ⟨g, 0, none⟩) gs.length cap) gs vs) := hO
  have HL : Hid (gs[k]? = some l) := hl
  have HZ : Hid (∀ q ∈ gs, RwB q ∧ q.length ≤ 60) := hz
  obtain ⟨al, cl, cb, hsl⟩ := hO.at hl
  have hcb := rw_cell_lt cb
  have hk8 : (k : Int) < (gs.length : Int) := by omega
  obtain ⟨R, HR⟩ : ∃ R, Hid (dropG gs k l = R) := ⟨_, rfl⟩
  rw [HR.out]
  by_cases h0 : l.length = 0
  · have DE := delB_any (i := k) hO hk
    have HRE : Hid (R = gs.take k ++ gs.drop (k + 1)) := by show _ = _; rw [← HR.out]; exact dropG_none h0
    have hwr : IntKind.i64.wrap ((k : Int) + 1) = (k : Int) + 1 := by rw [IntKind.wrap_i64]; omega
    clear hO hl hz hsl HR HO
    go_enter Tryd.func52, Tryd.ntmps52
    go_wp2_with fail
    refine DE.mono ?_
    rintro e w2 ⟨v2, rfl, o2, g2⟩
    rw [← HRE.out] at o2
    have HO2 : Hid (OwnT w2 B v2 R _) := o2
    have HG2 : Hid (w.grownBy w2 (some g)) := g2
    clear DE o2 g2
    go_wp2
    go_ret
    exact ⟨_, _, rfl, HO2.out, HG2.out⟩
  · have hl8 : ¬ (l.length : Int) = 0 := by omega
    have hl9 : ((l.length : Int) == 0) = false := by simp; intro e; rw [e] at h0; simp at h0
    obtain ⟨z, hz8⟩ : ∃ z : Int, (k : Int) - 1 = z := ⟨_, rfl⟩
    have HKZ : Hid ((k : Int) - 1 = z) := hz8
    have hwz : IntKind.i64.wrap z = z := by rw [IntKind.wrap_i64]; omega
    have b0 := (Below.refl w.heap.size w).alloc (Nat.le_refl _) (.cells #[.int .i64 z, .int .i64 (k : Int)] 3)
    obtain ⟨W1, HW1⟩ : ∃ W1, Hid (W1 = w.alloc (.cells #[.int .i64 z, .int .i64 (k : Int)] 3)) := ⟨_, rfl⟩
    have HB1 : Hid (Below w.heap.size w W1) := by show Below _ _ _; rw [HW1.out]; exact b0
    have HT1 : Hid (W1.heap[w.heap.size]? = some (.cells #[.int .i64 z, .int .i64 (k : Int)] 3)) := by show _ = _; rw [HW1.out]; exact ints2_new w z _
    have HR0 : Hid (Below W1.heap.size W1 (w.alloc (.cells #[.int .i64 z, .int .i64 (k : Int)] 3))) := by show Below _ _ _; rw [← HW1.out]; exact Below.refl _ _
    have HO1 : Hid (OwnT W1 B (.slice (some ⟨g, 0, none⟩) gs.length cap) gs vs) := HO.out.below HB1.out
    have hgw : g < w.heap.size := hcb
    clear hO hl hz hsl b0 HO
    go_enter Tryd.func52, Tryd.ntmps52
    go_wp2_with fail
    go_loopw [24] (fun i wr => ∃ t : Nat, t ≤ 2 ∧ i = .int .i64 (t : Int) ∧ DrRel gs k l t ∧ Below W1.heap.size W1 wr) (fun i _ => 2 - (intOf i).toNat)
    case atStart => exact ⟨0, by omega, rfl, ⟨fun h => by omega, fun h => by omega⟩, HR0.out⟩
    case round =>
      clear cb hcb
      obtain ⟨t, ht, rfl, hrelD, hb⟩ := hrel
      have HD : Hid (DrRel gs k l t) := hrelD
      have HB : Hid (Below W1.heap.size W1 wr) := hb
      have hx1 : wr.heap[w.heap.size]? = some (.cells #[.int .i64 z, .int .i64 (k : Int)] 3) := (hb.block _ (Array.getElem?_eq_some_iff.1 HT1.out).1).trans HT1.out
      have q0 := cell_of_row _ _ 0 _ _ _ hx1
      have q1 := cell_of_row _ _ 1 _ _ _ hx1
      have hxl := (Array.getElem?_eq_some_iff.1 hx1).1
      have HBW : Hid (Below w.heap.size w wr) := HB1.out.trans (hb.mono HB1.out.size)
      have HOr : Hid (OwnT wr B (.slice (some ⟨g, 0, none⟩) gs.length cap) gs vs) := HO1.out.below hb
      clear hrelD hb hx1
      match t, ht with
      | 2, _ =>
        have HRE : Hid (R = gs.take k ++ ([l] ++ gs.drop (k + 1))) := by show _ = _; rw [← HR.out]; exact dropG_same h0 (HD.out.1 (by omega)) hk (HD.out.2 (by omega))
        have HSM : Hid (gs.take k ++ ([l] ++ gs.drop (k + 1)) = gs) := by
          show _ = _
          conv => rhs; rw [← List.take_append_drop k gs, drop_succ HL.out]
          rfl
        go_wp2
        go_ret
        exact ⟨_, _, rfl, by rw [HRE.out, HSM.out]; exact HOr.out, below_grown6 HBW.out⟩
      | 0, _ =>
        by_cases hk0 : k = 0
        · have hzn : z < 0 := by omega
          have HN : Hid (DrRel gs k l 1) := ⟨fun _ a h => by omega, fun h => by omega⟩
          clear hk0
          go_wp2
          exact ⟨⟨1, by omega, by go_num, HN.out, HB.out⟩, by simp [intOf]⟩
        · obtain ⟨f, hf⟩ : ∃ f : Nat, k = f + 1 := ⟨k - 1, by omega⟩
          obtain rfl : z = (f : Int) := by omega
          have HKF : Hid (k = f + 1) := hf
          obtain ⟨p, hp⟩ : ∃ p, gs[f]? = some p := ⟨_, List.getElem?_eq_getElem (by omega)⟩
          have hq : gs[f + 1]? = some l := by rw [← hf]; exact HL.out
          have HPP : Hid (gs[f]? = some p) := hp
          have hP1 : (f : Int) + 1 = (k : Int) := by omega
          have hwk : IntKind.i64.wrap (k : Int) = (k : Int) := by rw [IntKind.wrap_i64]; omega
          have hnl : ¬ (k : Int) = (gs.length : Int) := by omega
          have hnl2 : ((k : Int) == (gs.length : Int)) = false := by simp; omega
          obtain ⟨j, hj⟩ : ∃ j, f + 2 = j := ⟨_, rfl⟩
          have hfz8 : (f : Int) < (gs.length : Int) := by omega
          have hA : gs[f]? = some p := hp
          have hC : gs[k]? = some l := HL.out
          obtain ⟨aa, ca, ra, sa⟩ := HOr.out.at hA
          obtain ⟨ac, cc, rc, sc⟩ := HOr.out.at hC
          have hra := rw_cell_lt ra
          have zA := HZ.out p (List.mem_of_getElem? hA)
          have zC := HZ.out l (List.mem_of_getElem? hC)
          have hzA := zA.2
          have hzC := zC.2
          have HRB : Hid (RwB (p ++ l)) := rwb_app zA.1 zC.1 (by omega)
          have HSA : Hid (SlV wr (.slice aa p.length ca) p) := ⟨_, _, rfl, sa.sl⟩
          have HSC : Hid (SlV wr (.slice ac l.length cc) l) := ⟨_, _, rfl, sc.sl⟩
          have bT : Below wr.heap.size wr (wr.alloc (.cells #[.slice aa p.length ca, .slice ac l.length cc] 23)) := (Below.refl _ _).alloc (Nat.le_refl _) _
          have HBT : Hid (Below wr.heap.size wr (wr.alloc (.cells #[.slice aa p.length ca, .slice ac l.length cc] 23))) := bT
          have HCC : Hid (∀ u : World, u.heap = (wr.alloc (.cells #[.slice aa p.length ca, .slice ac l.length cc] 23)).heap → Calls Tryd.prog 79 #[.slice (some ⟨wr.heap.size, 0, none⟩) 2 2] u fun e w' => ∃ v, e = .returned v ∧ Rws w' u.heap.size v (p ++ l) ∧ Below u.heap.size u w') := fun u hu => concatR_any u wr.heap.size _ _ p l (by rw [hu]; exact heap_alloc_new wr _) (by omega) (by omega) (slV_heap (HSA.out.below HBT.out (Nat.le_refl _)) hu) (slV_heap (HSC.out.below HBT.out (Nat.le_refl _)) hu)
          have hwr2 : w.heap.size ≤ wr.heap.size := HBW.out.size
          have hj8 : (f : Int) + 2 = (j : Int) := by omega
          have hwj : IntKind.i64.wrap (j : Int) = (j : Int) := by rw [IntKind.wrap_i64]; omega
          have HJJ : Hid (f + 2 = j ∧ j ≤ gs.length) := ⟨hj, by omega⟩
          clear hA hC sa sc zA zC bT hp hj hq hf
          go_upto_region 7 with fail
          go_region_law (go_simp; go_at_call 79; refine (HCC.out _ (by rfl)).mono ?_; rintro e w3 ⟨v3, rfl, r3, q3⟩)
          all_goals
            obtain ⟨a3, c3, hv3⟩ := rw_form r3
            subst hv3
            have b3 : Below wr.heap.size wr w3 := by have q4 : Below (wr.alloc (.cells #[.slice aa p.length ca, .slice ac l.length cc] 23)).heap.size (wr.alloc (.cells #[.slice aa p.length ca, .slice ac l.length cc] 23)) w3 := ⟨q3.os, q3.tape, q3.output, q3.size, q3.block⟩; exact HBT.out.trans (q4.mono HBT.out.size)
            have HB3 : Hid (Below wr.heap.size wr w3) := b3
            have t3 : SlT w3 a3 (p ++ l) := Rws.slT r3
            have HT3 : Hid (SlT w3 a3 (p ++ l)) := t3
            have FT := fit_any (cap := c3) t3.sl HRB.out
            rw [show (pageI (p ++ l)).length = lnP (p ++ l) from rfl] at FT
            have HLN : Hid (lnP (p ++ l) = lnP (p ++ l)) := rfl
            clear r3 q3 b3 t3 ra rc hra
            by_cases hfit : lnP (p ++ l) ≤ 300
            · rw [decide_eq_true hfit] at FT
              have HRE : Hid (R = gs.take f ++ ([p ++ l] ++ gs.drop (k + 1))) := by
                show _ = _
                have h1 : k - 1 = f := by have := HKF.out; omega
                have h2 : gs[k - 1]? = some p := by rw [h1]; exact HPP.out
                rw [← HR.out, dropG_ahead h0 (by have := HKF.out; omega) h2 hfit, h1]
              have HJ2 : Hid (k + 1 = j) := by show _ = _; have := HKF.out; have := HJJ.out.1; omega
              rw [HJ2.out] at HRE
              clear hfit
              obtain ⟨L, HLL⟩ : ∃ L, Hid (p ++ l = L) := ⟨_, rfl⟩
              rw [HLL.out] at HRE HT3 FT ⊢
              go_wp2_with fail
              refine FT.mono ?_
              rintro e w4 ⟨rfl, b4⟩
              have HB4 : Hid (Below wr.heap.size wr w4) := HB3.out.trans (b4.mono HB3.out.size)
              have hz4 := HB4.out.size
              have HS4 : Hid (SlTV w4 (.slice a3 L.length c3) L) := ⟨_, _, rfl, HT3.out.below b4 (Nat.le_refl _)⟩
              have bL : Below w4.heap.size w4 (w4.alloc (.cells #[.slice a3 L.length c3] 23)) := (Below.refl _ _).alloc (Nat.le_refl _) _
              have HOL : Hid (OwnT (w4.alloc (.cells #[.slice a3 L.length c3] 23)) w4.heap.size (.slice (some ⟨w4.heap.size, 0, none⟩) 1 1) [L] [.slice a3 L.length c3]) := ownT_lit1 w4 _ _ _ L rfl (Nat.le_refl _) HS4.out
              have HBL : Hid (Below wr.heap.size wr (w4.alloc (.cells #[.slice a3 L.length c3] 23))) := HB4.out.trans (bL.mono HB4.out.size)
              have RP := replace2_any (HOr.out.below HBL.out) HOL.out (fun gp h e => by have h2 : w4.heap.size = gp := Option.some.inj h; omega) rfl HJJ.out.1 HJJ.out.2 rfl hgl
              clear FT b4 bL HB4 HS4 HOL HT3 HB3
              go_wp2_with fail
              refine RP.mono ?_
              rintro e w5 ⟨v5, rfl, o5, g5⟩
              rw [← HRE.out] at o5
              have HO5 : Hid (OwnT w5 B v5 R _) := o5
              have HG5 : Hid (w.grownBy w5 (some g)) := (below_grown6 (HBW.out.trans (HBL.out.mono HBW.out.size))).trans g5
              clear RP o5 g5
              go_wp2
              go_ret
              exact ⟨_, _, rfl, HO5.out, HG5.out⟩
            · rw [decide_eq_false hfit] at FT
              have HN : Hid (DrRel gs k l 1) := ⟨fun _ a h1 h2 h3 => by
                have h4 : k - 1 = f := by have := HKF.out; omega
                rw [h4, HPP.out] at h2
                obtain rfl := Option.some.inj h2
                exact hfit h3, fun h => by omega⟩
              clear hfit
              obtain ⟨L, HLL⟩ : ∃ L, Hid (p ++ l = L) := ⟨_, rfl⟩
              rw [HLL.out] at FT ⊢
              go_wp2_with fail
              refine FT.mono ?_
              rintro e w4 ⟨rfl, b4⟩
              have HB4 : Hid (Below W1.heap.size W1 w4) := HB.out.trans ((HB3.out.trans (b4.mono HB3.out.size)).mono HB.out.size)
              clear FT b4
              go_wp2
              exact ⟨⟨1, by omega, by go_num, HN.out, HB4.out⟩, by simp [intOf]⟩
      | 1, _ =>
        by_cases hkl : k + 1 = gs.length
        · have HN : Hid (DrRel gs k l 2) := ⟨fun _ => HD.out.1 (by omega), fun _ b hb => by have := (List.getElem?_eq_some_iff.1 hb).1; omega⟩
          have hkl8 : (k : Int) + 1 = (gs.length : Int) := by omega
          have hwk : IntKind.i64.wrap (gs.length : Int) = (gs.length : Int) := by rw [IntKind.wrap_i64]; omega
          clear hkl
          go_wp2
          exact ⟨⟨2, by omega, by go_num, HN.out, HB.out⟩, by simp [intOf]⟩
        · obtain ⟨k1, hk1⟩ : ∃ k1, k + 1 = k1 := ⟨_, rfl⟩
          have HKF : Hid (k + 1 = k1) := hk1
          obtain ⟨p, hp⟩ : ∃ p, gs[k1]? = some p := ⟨_, List.getElem?_eq_getElem (by omega)⟩
          have HPP : Hid (gs[k1]? = some p) := hp
          have hP1 : (k : Int) + 1 = (k1 : Int) := by omega
          have hwk : IntKind.i64.wrap (k1 : Int) = (k1 : Int) := by rw [IntKind.wrap_i64]; omega
          have hnl : ¬ (k1 : Int) = (gs.length : Int) := by omega
          have hnl2 : ((k1 : Int) == (gs.length : Int)) = false := by simp; omega
          have hk18 : (k1 : Int) < (gs.length : Int) := by omega
          obtain ⟨j, hj⟩ : ∃ j, k + 2 = j := ⟨_, rfl⟩
          have hfz8 : (k : Int) < (gs.length : Int) := by omega
          have hA : gs[k]? = some l := HL.out
          have hC : gs[k1]? = some p := hp
          obtain ⟨aa, ca, ra, sa⟩ := HOr.out.at hA
          obtain ⟨ac, cc, rc, sc⟩ := HOr.out.at hC
          have hra := rw_cell_lt ra
          have zA := HZ.out l (List.mem_of_getElem? hA)
          have zC := HZ.out p (List.mem_of_getElem? hC)
          have hzA := zA.2
          have hzC := zC.2
          have HRB : Hid (RwB (l ++ p)) := rwb_app zA.1 zC.1 (by omega)
          have HSA : Hid (SlV wr (.slice aa l.length ca) l) := ⟨_, _, rfl, sa.sl⟩
          have HSC : Hid (SlV wr (.slice ac p.length cc) p) := ⟨_, _, rfl, sc.sl⟩
          have bT : Below wr.heap.size wr (wr.alloc (.cells #[.slice aa l.length ca, .slice ac p.length cc] 23)) := (Below.refl _ _).alloc (Nat.le_refl _) _
          have HBT : Hid (Below wr.heap.size wr (wr.alloc (.cells #[.slice aa l.length ca, .slice ac p.length cc] 23))) := bT
          have HCC : Hid (∀ u : World, u.heap = (wr.alloc (.cells #[.slice aa l.length ca, .slice ac p.length cc] 23)).heap → Calls Tryd.prog 79 #[.slice (some ⟨wr.heap.size, 0, none⟩) 2 2] u fun e w' => ∃ v, e = .returned v ∧ Rws w' u.heap.size v (l ++ p) ∧ Below u.heap.size u w') := fun u hu => concatR_any u wr.heap.size _ _ l p (by rw [hu]; exact heap_alloc_new wr _) (by omega) (by omega) (slV_heap (HSA.out.below HBT.out (Nat.le_refl _)) hu) (slV_heap (HSC.out.below HBT.out (Nat.le_refl _)) hu)
          have hwr2 : w.heap.size ≤ wr.heap.size := HBW.out.size
          have hj8 : (k : Int) + 2 = (j : Int) := by omega
          have hwj : IntKind.i64.wrap (j : Int) = (j : Int) := by rw [IntKind.wrap_i64]; omega
          have HJJ : Hid (k + 2 = j ∧ j ≤ gs.length) := ⟨hj, by omega⟩
          clear hA hC sa sc zA zC bT hp hj hk1
          go_upto_region 7 with fail
          go_region_law (go_simp; go_at_call 79; refine (HCC.out _ (by rfl)).mono ?_; rintro e w3 ⟨v3, rfl, r3, q3⟩)
          all_goals
            obtain ⟨a3, c3, hv3⟩ := rw_form r3
            subst hv3
            have b3 : Below wr.heap.size wr w3 := by have q4 : Below (wr.alloc (.cells #[.slice aa l.length ca, .slice ac p.length cc] 23)).heap.size (wr.alloc (.cells #[.slice aa l.length ca, .slice ac p.length cc] 23)) w3 := ⟨q3.os, q3.tape, q3.output, q3.size, q3.block⟩; exact HBT.out.trans (q4.mono HBT.out.size)
            have HB3 : Hid (Below wr.heap.size wr w3) := b3
            have t3 : SlT w3 a3 (l ++ p) := Rws.slT r3
            have HT3 : Hid (SlT w3 a3 (l ++ p)) := t3
            have FT := fit_any (cap := c3) t3.sl HRB.out
            rw [show (pageI (l ++ p)).length = lnP (l ++ p) from rfl] at FT
            have HLN : Hid (lnP (l ++ p) = lnP (l ++ p)) := rfl
            clear r3 q3 b3 t3 ra rc hra
            by_cases hfit : lnP (l ++ p) ≤ 300
            · rw [decide_eq_true hfit] at FT
              have HRE : Hid (R = gs.take k ++ ([l ++ p] ++ gs.drop (k + 2))) := by
                show _ = _
                rw [← HR.out, dropG_next h0 (HD.out.1 (by omega)) (by rw [HKF.out]; exact HPP.out) hfit]
              rw [HJJ.out.1] at HRE
              clear hfit
              obtain ⟨L, HLL⟩ : ∃ L, Hid (l ++ p = L) := ⟨_, rfl⟩
              rw [HLL.out] at HRE HT3 FT ⊢
              go_wp2_with fail
              refine FT.mono ?_
              rintro e w4 ⟨rfl, b4⟩
              have HB4 : Hid (Below wr.heap.size wr w4) := HB3.out.trans (b4.mono HB3.out.size)
              have hz4 := HB4.out.size
              have HS4 : Hid (SlTV w4 (.slice a3 L.length c3) L) := ⟨_, _, rfl, HT3.out.below b4 (Nat.le_refl _)⟩
              have bL : Below w4.heap.size w4 (w4.alloc (.cells #[.slice a3 L.length c3] 23)) := (Below.refl _ _).alloc (Nat.le_refl _) _
              have HOL : Hid (OwnT (w4.alloc (.cells #[.slice a3 L.length c3] 23)) w4.heap.size (.slice (some ⟨w4.heap.size, 0, none⟩) 1 1) [L] [.slice a3 L.length c3]) := ownT_lit1 w4 _ _ _ L rfl (Nat.le_refl _) HS4.out
              have HBL : Hid (Below wr.heap.size wr (w4.alloc (.cells #[.slice a3 L.length c3] 23))) := HB4.out.trans (bL.mono HB4.out.size)
              have RP := replace2_any (HOr.out.below HBL.out) HOL.out (fun gp h e => by have h2 : w4.heap.size = gp := Option.some.inj h; omega) rfl HJJ.out.1 HJJ.out.2 rfl hgl
              clear FT b4 bL HB4 HS4 HOL HT3 HB3
              go_wp2_with fail
              refine RP.mono ?_
              rintro e w5 ⟨v5, rfl, o5, g5⟩
              rw [← HRE.out] at o5
              have HO5 : Hid (OwnT w5 B v5 R _) := o5
              have HG5 : Hid (w.grownBy w5 (some g)) := (below_grown6 (HBW.out.trans (HBL.out.mono HBW.out.size))).trans g5
              clear RP o5 g5
              go_wp2
              go_ret
              exact ⟨_, _, rfl, HO5.out, HG5.out⟩
            · rw [decide_eq_false hfit] at FT
              have HN : Hid (DrRel gs k l 2) := ⟨fun _ => HD.out.1 (by omega), fun _ b h2 h3 => by
                rw [HKF.out, HPP.out] at h2
                obtain rfl := Option.some.inj h2
                exact hfit h3⟩
              clear hfit
              obtain ⟨L, HLL⟩ : ∃ L, Hid (l ++ p = L) := ⟨_, rfl⟩
              rw [HLL.out] at FT ⊢
              go_wp2_with fail
              refine FT.mono ?_
              rintro e w4 ⟨rfl, b4⟩
              have HB4 : Hid (Below W1.heap.size W1 w4) := HB.out.trans ((HB3.out.trans (b4.mono HB3.out.size)).mono HB.out.size)
              clear FT b4
              go_wp2
              exact ⟨⟨2, by omega, by go_num, HN.out, HB4.out⟩, by simp [intOf]⟩
end Go.Proofs.YticogafoopkflaaDoor
